/- Part 7 of the texts that the statements of this seat lean on: mathematics, and what functions answer, as contracts over memory; each part says its own conditions. -/
import Derived.Test.YtmifgblbicnimaaM6
/- What the statements' helpers keep.Rat and keep.OwnRat answer, as contracts over memory. Conditions: sizes of at most so many limbs. -/
namespace Go.Proofs.Ytmifgblbicnimaa
open Go.RowKit Limb
set_option linter.unusedVariables false
section
variable {w : World} {s s' : Bool} {A B A' B' : Option Addr} {n c m d n' c' m' d' : Nat} {xs ys xs' ys' : List Nat} {x y : Int} {o o' : Option Rat} {a b L L' : Nat}
set_option maxHeartbeats 4000000 in
set_option maxRecDepth 100000 in
theorem keepRat_c (hx : QQ w s A n c xs B m d ys o L) (hx' : QQ w s' A' n' c' xs' B' m' d' ys' o' L') (h1 : L ≤ 100000) (h2 : L' ≤ 100000) (v : Bool) (hv : (decide (s = s') && same xs xs' && same ys ys') = v) :
    Calls Try.prog 15 #[.agg #[.bool s, .slice A n c, .slice B m d], .agg #[.bool s', .slice A' n' c', .slice B' m' d']] w fun e w' => e = .returned (.bool v) ∧ Below w.heap.size w w' := by
  have b0 := below_new w (.cells #[Value.bool s, Value.slice A n c, Value.slice B m d] 27)
  have b1 := below_new (w.alloc (.cells #[Value.bool s, Value.slice A n c, Value.slice B m d] 27)) (.cells #[Value.bool s', Value.slice A' n' c', Value.slice B' m' d'] 27)
  have HW := Lib.hid (below_two b0 b1)
  have HQ0 := Lib.hid (hx.below HW.out)
  have HQ1 := Lib.hid (hx'.below HW.out)
  have r0 := (row3_new w 27 (.bool s) (.slice A n c) (.slice B m d)).below b1
  have r1 := row3_new (w.alloc (.cells #[Value.bool s, Value.slice A n c, Value.slice B m d] 27)) 27 (.bool s') (.slice A' n' c') (.slice B' m' d')
  simp only [World.size_alloc] at r1
  clear b0 b1 hx hx'
  cases ht : decide (s = s') && same xs xs' with
  | true =>
    have K2 : RowKit.Hid (same ys ys' = v) := by
      show _ = _
      rw [← hv, ht, Bool.true_and]
    have K := Lib.hid ht
    clear ht hv
    go_enter Try.func15, Try.ntmps15
    go_wp2_with fail
    generalize (w.alloc (.cells #[Value.bool s, Value.slice A n c, Value.slice B m d] 27)).alloc (.cells #[Value.bool s', Value.slice A' n' c', Value.slice B' m' d'] 27) = w1 at *
    have HR0 := Lib.hid r0
    have HR1 := Lib.hid r1
    clear r0 r1
    refine (keepInt_c HQ0.out.top HQ1.out.top (by omega) (by omega) true K.out).mono ?_
    rintro e w2 ⟨rfl, bn⟩
    replace HQ0 := Lib.hid (HQ0.out.below bn)
    replace HQ1 := Lib.hid (HQ1.out.below bn)
    replace HR0 := Lib.hid (HR0.out.below bn)
    replace HR1 := Lib.hid (HR1.out.below bn)
    replace HW := Lib.hid (below_two HW.out bn)
    clear bn
    have c00 := HR0.out.c0
    have c01 := HR0.out.c1
    have c02 := HR0.out.c2
    have c10 := HR1.out.c0
    have c11 := HR1.out.c1
    have c12 := HR1.out.c2
    go_wp2_with fail
    clear c00 c01 c02
    clear c10 c11 c12
    refine (keep_c HQ0.out.bot HQ1.out.bot (by omega) (by omega) v K2.out).mono ?_
    rintro e w3 ⟨rfl, bn⟩
    replace HW := Lib.hid (below_two HW.out bn)
    clear bn
    go_wp2
    go_ret
    exact ⟨rfl, HW.out⟩
  | false =>
    obtain rfl : v = false := by rw [← hv, ht]; rfl
    have K := Lib.hid ht
    clear ht hv
    go_enter Try.func15, Try.ntmps15
    go_wp2_with fail
    generalize (w.alloc (.cells #[Value.bool s, Value.slice A n c, Value.slice B m d] 27)).alloc (.cells #[Value.bool s', Value.slice A' n' c', Value.slice B' m' d'] 27) = w1 at *
    have HR0 := Lib.hid r0
    have HR1 := Lib.hid r1
    clear r0 r1
    refine (keepInt_c HQ0.out.top HQ1.out.top (by omega) (by omega) false K.out).mono ?_
    rintro e w2 ⟨rfl, bn⟩
    replace HQ0 := Lib.hid (HQ0.out.below bn)
    replace HQ1 := Lib.hid (HQ1.out.below bn)
    replace HR0 := Lib.hid (HR0.out.below bn)
    replace HR1 := Lib.hid (HR1.out.below bn)
    replace HW := Lib.hid (below_two HW.out bn)
    clear bn
    go_wp2
    go_ret
    exact ⟨rfl, HW.out⟩

set_option maxHeartbeats 4000000 in
set_option maxRecDepth 100000 in
theorem ownRat_c (hx : QQ w s A n c xs B m d ys o L) (h1 : L ≤ 100000) :
    Calls Try.prog 10 #[.agg #[.bool s, .slice A n c, .slice B m d]] w fun e w' => ∃ A2 n2 c2 B2 m2 d2, e = .returned (.agg #[.bool s, .slice A2 n2 c2, .slice B2 m2 d2]) ∧ QQ w' s A2 n2 c2 xs B2 m2 d2 ys o L ∧ Below w.heap.size w w' := by
  have b0 := below_new w (.cells #[Value.bool s, Value.slice A n c, Value.slice B m d] 27)
  have b1 := below_new (w.alloc (.cells #[Value.bool s, Value.slice A n c, Value.slice B m d] 27)) (.cells #[Value.bool false, Value.slice none 0 0, Value.slice none 0 0] 27)
  have HW := Lib.hid (below_two b0 b1)
  have HX := Lib.hid (hx.top.below HW.out)
  have HY := Lib.hid (hx.bot.below HW.out)
  have Hrd := Lib.hid hx.rd
  have r0 := (row3_new w 27 (.bool s) (.slice A n c) (.slice B m d)).below b1
  have rz := row3_new (w.alloc (.cells #[Value.bool s, Value.slice A n c, Value.slice B m d] 27)) 27 (.bool false) (.slice none 0 0) (.slice none 0 0)
  simp only [World.size_alloc] at rz
  have Hq : RowKit.Hid (w.heap.size ≤ w.heap.size + 1) := Nat.le_succ _
  clear b0 b1 hx
  go_enter Try.func10, Try.ntmps10
  go_wp2_with fail
  generalize (w.alloc (.cells #[Value.bool s, Value.slice A n c, Value.slice B m d] 27)).alloc (.cells #[Value.bool false, Value.slice none 0 0, Value.slice none 0 0] 27) = wS at *
  have HR0 := Lib.hid r0
  have HZ := Lib.hid rz
  clear r0 rz
  refine region_free 7 1 [3, 4, 5, 6, 7, 8, 9] ?aF12 (fun wx => Below wS.heap.size wS wx) (fun k vv wx => match k with
      | 0 => vv = .pointer (some ⟨w.heap.size, 0, none⟩)
      | 1 => vv = .agg #[.bool s, .slice A n c]
      | 2 => ∃ (e0 : Option Addr) (e1 : Nat) (e2 : Nat), vv = .agg #[.bool s, .slice e0 e1 e2] ∧ ZZ wx s e0 e1 e2 xs (zOf s (Limb.val xs)) L
      | 3 => vv = .pointer (some ⟨w.heap.size, 2, none⟩)
      | 4 => vv = .slice B m d
      | 5 => ∃ (e0 : Option Addr) (e1 : Nat) (e2 : Nat), vv = .slice e0 e1 e2 ∧ NN wx e0 e1 e2 ys (Limb.val ys) L
      | _ => ∃ (e0 : Option Addr) (e1 : Nat) (e2 : Nat) (e3 : Option Addr) (e4 : Nat) (e5 : Nat), vv = .agg #[.bool s, .slice e0 e1 e2, .slice e3 e4 e5] ∧ ZZ wx s e0 e1 e2 xs (zOf s (Limb.val xs)) L ∧ NN wx e3 e4 e5 ys (Limb.val ys) L)
    (fun k => false) (by kernel_rfl) ?haF12 rfl (by kernel_rfl) (by kernel_rfl) (fun _ _ _ _ _ h => h) ?hSb12 ?hPb12 ?hS12 ?hop12 ?hfin12
  case haF12 =>
    intro vals
    simp only [fillAll, List.getElem?_cons_zero, List.getElem?_cons_succ, Act.put, List.setIfInBounds_toArray, List.set_cons_zero, List.set_cons_succ]
    exact rfl
  case hSb12 => exact fun wx w2 hb hS => below_two hS hb
  case hPb12 =>
    intro k v wa wb hb h
    match k, h with
    | 0, h => exact h
    | 1, h => exact h
    | 2, ⟨e0, e1, e2, h1, g0⟩ => exact ⟨e0, e1, e2, h1, g0.below hb⟩
    | 3, h => exact h
    | 4, h => exact h
    | 5, ⟨e0, e1, e2, h1, g0⟩ => exact ⟨e0, e1, e2, h1, g0.below hb⟩
    | _ + 6, ⟨e0, e1, e2, e3, e4, e5, h1, g0, g1⟩ => exact ⟨e0, e1, e2, e3, e4, e5, h1, g0.below hb, g1.below hb⟩
  case hS12 => exact (Below.refl _ _).drew
  case hop12 =>
    refine .cons (k := 0) ?_ (.cons (k := 1) ?_ (.cons (k := 2) ?_ (.cons (k := 3) ?_ (.cons (k := 4) ?_ (.cons (k := 5) ?_ (.cons (k := 6) ?_ (.nil)))))))
    all_goals intro vals wr hS hd KC hK
    all_goals (show Oper.wp _ _ _ _ _ _; dsimp only)
    · go_simp
      refine hK _ _ rfl (Below.refl _ _) (by first | rfl | simp) (fun h => by cases h)
    · have d0 : vals 0 = _ := hd 0 (by decide +kernel)
      rw [d0]
      have z0 := (HR0.out.below hS).c0
      have z1 := (HR0.out.below hS).c1
      go_simp
      refine hK _ _ rfl (Below.refl _ _) (by first | rfl | simp) (fun h => by cases h)
    · have d1 : vals 1 = _ := hd 1 (by decide +kernel)
      rw [d1]
      go_simp
      go_at_call 22
      with_reducible refine (ownInt_c (HX.out.below hS) (by omega)).mono ?_
      rintro e w2 ⟨r0, r1, r2, rfl, f0, bn_r⟩
      refine hK _ _ rfl bn_r ⟨_, _, _, rfl, f0⟩ (fun h => by cases h)
    · go_simp
      refine hK _ _ rfl (Below.refl _ _) (by first | rfl | simp) (fun h => by cases h)
    · have d3 : vals 3 = _ := hd 3 (by decide +kernel)
      rw [d3]
      have z0 := (HR0.out.below hS).c2
      go_simp
      refine hK _ _ rfl (Below.refl _ _) (by first | rfl | simp) (fun h => by cases h)
    · have d4 : vals 4 = _ := hd 4 (by decide +kernel)
      rw [d4]
      go_simp
      go_at_call 23
      with_reducible refine (own_any _ _ _ _ _ _ _ (HY.out.below hS) (by omega)).mono ?_
      rintro e w2 ⟨r0, r1, r2, rfl, f0, bn_r⟩
      refine hK _ _ rfl bn_r ⟨_, _, _, rfl, f0⟩ (fun h => by cases h)
    · obtain ⟨A_2_0, n_2_1, n_2_2, d2, h_2_0⟩ := hd 2 (by decide +kernel)
      obtain ⟨A_5_0, n_5_1, n_5_2, d5, h_5_0⟩ := hd 5 (by decide +kernel)
      rw [d2, d5]
      go_simp
      refine hK _ _ rfl (Below.refl _ _) ⟨_, _, _, _, _, _, rfl, h_2_0, h_5_0⟩ (fun h => by cases h)
  case hfin12 =>
    intro vals wr hS hP hne
    obtain ⟨A_6_0, n_6_1, n_6_2, A_6_3, n_6_4, n_6_5, ez_6, h_6_0, h_6_1⟩ := hP 6 (by decide)
    have hZ3 := HZ.out.below hS
    have hNo := hZ3.noLimb (by intro v e; cases e) (by intro v e; cases e) (by intro v e; cases e)
    have e0 := hZ3.c0
    have e1 := hZ3.c1
    have e2 := hZ3.c2
    have f0 := hZ3.free 0
    have f1 := hZ3.free 1
    have f2 := hZ3.free 2
    have HF := Lib.hid (hZ3.fill (.bool s) (.slice A_6_0 n_6_1 n_6_2) (.slice A_6_3 n_6_4 n_6_5))
    have HP := Lib.hid (QQ.fillR3 ⟨h_6_0, h_6_1, Hrd.out⟩ hNo (.bool s) (.slice A_6_0 n_6_1 n_6_2) (.slice A_6_3 n_6_4 n_6_5))
    have HB := Lib.hid (below_fill3' (below_two HW.out hS) Hq.out (.bool s) (.slice A_6_0 n_6_1 n_6_2) (.slice A_6_3 n_6_4 n_6_5))
    try dsimp only
    rw [ez_6]
    refine wpAny_ready (rs := [7]) (by kernel_rfl) (by simp) (AllReady.cons rfl (fun KC hK => ?_) AllReady.nil)
    go_simp
    refine hK _ _ ?_
    clear hK KC
    refine wpAny_done (by kernel_rfl) ?_ _
    go_wp2
    refine bodyPost_ret (results_cell_row rfl _ _ _ 27 #[.bool s, .slice A_6_0 n_6_1 n_6_2, .slice A_6_3 n_6_4 n_6_5] (0, 0) _ rfl HF.out Try.underlying27 rfl rat_size) rfl ?_
    exact ⟨A_6_0, n_6_1, n_6_2, A_6_3, n_6_4, n_6_5, rfl, HP.out, HB.out⟩

end
end Go.Proofs.Ytmifgblbicnimaa

/- What package power's raiseSize answers, as a contract over memory: the power, bit by bit from the highest one, or that it has too many limbs. Conditions: at most 64 limbs, exponents of at most 600. -/
namespace Go.Proofs.Ytmifgblbicnimaa
open Go.RowKit Limb
set_option linter.unusedVariables false
/-- Has a number no more limbs than may be? -/
def fit64 (x : Nat) : Bool := decide (x < 4294967296 ^ 64)
theorem fit64_yes {x : Nat} (h : fit64 x = true) : x < 4294967296 ^ 64 := by simpa [fit64] using h
theorem fit64_no {x : Nat} (h : ¬ x < 4294967296 ^ 64) : fit64 x = false := by simpa [fit64] using h
/-- A power that is too long stays so. -/
theorem fit64_up {v m N : Nat} (h : ¬ v ^ m < 4294967296 ^ 64) (hm : m ≤ N) : fit64 (v ^ N) = false := by
  refine fit64_no fun h2 => h ?_
  rcases Nat.eq_zero_or_pos v with h0 | h0
  · subst h0
    have h3 : 0 ^ m ≤ 1 := by
      rcases Nat.eq_zero_or_pos m with e | e
      · subst e; exact Nat.le_refl _
      · rw [Nat.zero_pow e]; omega
    exact Nat.lt_of_le_of_lt h3 (Nat.one_lt_pow (by decide) (by decide))
  · exact Nat.lt_of_le_of_lt (Nat.pow_le_pow_right h0 hm) h2
/-- One bit more of an exponent. -/
theorem half_bit (N p : Nat) : N / 2 ^ p = N / 2 ^ (p + 1) * 2 + (if N.testBit p = true then 1 else 0) := by
  have e : N / 2 ^ p = N / 2 ^ (p + 1) * 2 + (N / 2 ^ p) % 2 := by rw [Nat.pow_succ, ← Nat.div_div_eq_div_mul]; omega
  rw [Nat.testBit_eq_decide_div_mod_eq]
  rcases Nat.mod_two_eq_zero_or_one (N / 2 ^ p) with h | h
  · rw [h] at e ⊢; rw [if_neg (by decide)]; omega
  · rw [h] at e ⊢; rw [if_pos (by decide)]; omega
theorem pow_bit0 {v N p out : Nat} (ho : out = v ^ (N / 2 ^ (p + 1))) (hb : N.testBit p = false) : out * out = v ^ (N / 2 ^ p) := by
  rw [half_bit N p, hb, if_neg (by decide), ho, ← Nat.pow_add]
  congr 1; omega
theorem pow_bit1 {v N p out : Nat} (ho : out = v ^ (N / 2 ^ (p + 1))) (hb : N.testBit p = true) : out * out * v = v ^ (N / 2 ^ p) := by
  rw [half_bit N p, hb, if_pos rfl, Nat.pow_succ, ho, ← Nat.pow_add]
  congr 2; omega
theorem nn_over {w : World} {A : Option Addr} {n c a L : Nat} (h : NN w A n c (limbs a) a L) (hn : ¬ n ≤ 64) : ¬ a < 4294967296 ^ 64 := by
  intro h2; rw [h.len] at hn; exact hn (length_limbs_le h2)
theorem nn_under {w : World} {A : Option Addr} {n c a L : Nat} (h : NN w A n c (limbs a) a L) (hn : n ≤ 64) : a < 4294967296 ^ 64 := by
  rw [h.len] at hn
  have h2 := val_lt (small_limbs a)
  rw [val_limbs] at h2
  exact Nat.lt_of_lt_of_le h2 (Nat.pow_le_pow_right (by decide) hn)
theorem limbs_one : limbs 1 = [1] := by decide +kernel
theorem small_one63 : Small (1 :: List.replicate 63 0) := by intro x hx; simp at hx; omega
theorem lay_take (zs ys : List Nat) : (lay zs 0 ys).take ys.length = ys := by simp [lay]

set_option maxHeartbeats 4000000 in
set_option maxRecDepth 100000 in
theorem pSize_c {w : World} {A : Option Addr} {n c : Nat} {xs : List Nat} {v L : Nat} (hx : NN w A n c xs v L) (h1 : L ≤ 64) (N : Nat) (hN : N ≤ 600) (f : Bool) (hf : fit64 (v ^ N) = f) :
    Calls Try.prog 51 #[.slice A n c, .int .i64 (N : Int)] w fun e w' => ∃ A2 n2 c2, e = .returned (.tuple #[.slice A2 n2 c2, .bool f]) ∧ (f = true → NN w' A2 n2 c2 (limbs (v ^ N)) (v ^ N) 64) ∧ Below w.heap.size w w' := by
  have hm : N < 9223372036854775808 := by omega
  have hb : blen N ≤ 10 := blen_le (show N < 2 ^ 10 by omega)
  have HF := Lib.hid hf
  have HX := Lib.hid hx
  clear hf hx
  have Hlen := Lib.hid (len_any (N : Int))
  have hmk := run_made 64 64 rfl (by omega)
  have b0 := below_new w (.cells (madeCells #[.int .u32 0] 64) 62)
  have ho := own_made w 64 (by omega)
  have oc := ho.cell (k := 0) (by omega)
  have of := ho.1.frozenAt 0
  clear b0 ho
  go_enter Try.func51, Try.ntmps51
  go_wp2_with fail
  refine (Hlen.out _ (by omega) (by omega)).mono ?_
  rintro e w1 ⟨rfl, rfl⟩
  rw [Int.toNat_natCast]
  have HO1 : RowKit.Hid (OwnN (w.alloc (.cells ((madeCells #[.int .u32 0] 64).setIfInBounds 0 (.int .u32 1)) 62)) w.heap.size (some ⟨w.heap.size, 0, none⟩) 64 64 (1 :: List.replicate 63 0)) := by
    have e : (Obj.cells ((madeCells #[.int .u32 0] 64).setIfInBounds 0 (.int .u32 1)) 62) = Obj.cells ((1 :: List.replicate 63 0).map limV).toArray 62 := by kernel_rfl
    show OwnN _ _ _ _ _ _
    rw [e]; exact ⟨own_lit w _ 64 (by decide) (by decide), small_one63⟩
  have HB1 := Lib.hid (below_new w (.cells ((madeCells #[.int .u32 0] 64).setIfInBounds 0 (.int .u32 1)) 62))
  clear oc of hmk Hlen
  generalize w.alloc (.cells ((madeCells #[.int .u32 0] 64).setIfInBounds 0 (.int .u32 1)) 62) = w1 at *
  have HP0 : RowKit.Hid (1 = v ^ (N / 2 ^ blen N)) := by show _ = _; rw [Nat.div_eq_of_lt (blen_lt N), Nat.pow_zero]
  have HT0 : RowKit.Hid ((1 :: List.replicate 63 0).take 1 = limbs 1) := by show _ = _; rw [limbs_one]; rfl
  go_wp2
  go_loopw [7, 8] (fun sv i wr => ∃ (j sz p : Nat) (zs : List Nat), j ≤ 10 ∧ i = .int .i64 ((j : Int) - 1) ∧ sv = .int .i64 (sz : Int) ∧ sz ≤ 64 ∧ RowKit.Hid (p = v ^ (N / 2 ^ j)) ∧ RowKit.Hid (fit64 p = true) ∧ RowKit.Hid (zs.take sz = limbs p) ∧ RowKit.Hid (OwnN wr w.heap.size (some ⟨w.heap.size, 0, none⟩) 64 64 zs) ∧ RowKit.Hid (Below w.heap.size w wr)) (fun _ i _ => (intOf i + 1).toNat)
  case atStart => exact ⟨blen N, 1, 1, _, hb, rfl, rfl, by decide, HP0, (by decide +kernel : fit64 1 = true), HT0, HO1, HB1⟩
  case round =>
    clear HO1 HB1 HP0 HT0 hb
    obtain ⟨j, sz, p, zs, hj, rfl, rfl, hsz, HP, HQ, HT, HO, HB⟩ := hrel
    rcases j with _ | q
    · have HN : RowKit.Hid (NN wr (some ⟨w.heap.size, 0, none⟩) sz 64 (limbs (v ^ N)) (v ^ N) 64) := by
        have e0 : p = v ^ N := by have h := HP.out; rwa [Nat.pow_zero, Nat.div_one] at h
        have ho := (HO.out.take hsz).isN
        rw [HT.out, e0] at ho
        exact ⟨ho, val_limbs _, hsz, hsz⟩
      have Hf1 : RowKit.Hid (f = true) := by
        show _ = _
        have e0 : p = v ^ N := by have h := HP.out; rwa [Nat.pow_zero, Nat.div_one] at h
        rw [← HF.out, ← e0]; exact HQ.out
      clear HP HQ HT HO HF
      go_wp2
      go_ret2
      exact ⟨_, _, _, by rw [Hf1.out]; rfl, fun _ => HN.out, HB.out⟩
    · have ep : (((q + 1 : Nat) : Int) - 1) = (q : Int) := by omega
      rw [ep]
      have hq : q ≤ 9 := by omega
      have hbit := i64_bit N q hm
      clear ep hj
      have HS : RowKit.Hid (NN wr (some ⟨w.heap.size, 0, none⟩) sz 64 (limbs p) p 64) := by
        have ho := (HO.out.take hsz).isN
        rw [HT.out] at ho
        exact ⟨ho, val_limbs _, hsz, hsz⟩
      clear HT
      have hz0 : (0 : Int) ≤ (sz : Int) := by omega
      have hz1 : (sz : Int) ≤ 64 := by omega
      go_wp2
      generalize wr = wS at *
      refine region_free 7 1 [21, 22, 23, 24, 25, 26, 27] ?aF16 (fun wx => Below wS.heap.size wS wx) (fun k vv wx => match k with
          | 0 => vv = .slice (some ⟨w.heap.size, 0, none⟩) 64 64
          | 1 => vv = .int .i64 (sz : Int)
          | 2 => vv = .slice (some ⟨w.heap.size, 0, none⟩) sz 64
          | 3 => vv = .slice (some ⟨w.heap.size, 0, none⟩) 64 64
          | 4 => vv = .int .i64 (sz : Int)
          | 5 => vv = .slice (some ⟨w.heap.size, 0, none⟩) sz 64
          | _ => ∃ (e0 : Option Addr) (e1 : Nat) (e2 : Nat), vv = .slice e0 e1 e2 ∧ NN wx e0 e1 e2 (limbs (p * p)) (p * p) 128)
        (fun k => false) (by kernel_rfl) ?haF16 rfl (by kernel_rfl) (by kernel_rfl) (fun _ _ _ _ _ h => h) ?hSb16 ?hPb16 ?hS16 ?hop16 ?hfin16
      case haF16 =>
        intro vals
        simp only [fillAll, List.getElem?_cons_zero, List.getElem?_cons_succ, Act.put, List.setIfInBounds_toArray, List.set_cons_zero, List.set_cons_succ]
        exact rfl
      case hSb16 => exact fun wx w2 hb hS => below_two hS hb
      case hPb16 =>
        intro k v wa wb hb h
        match k, h with
        | 0, h => exact h
        | 1, h => exact h
        | 2, h => exact h
        | 3, h => exact h
        | 4, h => exact h
        | 5, h => exact h
        | _ + 6, ⟨e0, e1, e2, h1, g0⟩ => exact ⟨e0, e1, e2, h1, g0.below hb⟩
      case hS16 => exact (Below.refl _ _).drew
      case hop16 =>
        refine .cons (k := 0) ?_ (.cons (k := 1) ?_ (.cons (k := 2) ?_ (.cons (k := 3) ?_ (.cons (k := 4) ?_ (.cons (k := 5) ?_ (.cons (k := 6) ?_ (.nil)))))))
        all_goals intro vals wr hS hd KC hK
        all_goals (show Oper.wp _ _ _ _ _ _; dsimp only)
        · go_simp
          refine hK _ _ rfl (Below.refl _ _) (by first | rfl | simp) (fun h => by cases h)
        · go_simp
          refine hK _ _ rfl (Below.refl _ _) (by first | rfl | simp) (fun h => by cases h)
        · have d0 : vals 0 = _ := hd 0 (by decide +kernel)
          have d1 : vals 1 = _ := hd 1 (by decide +kernel)
          rw [d0, d1]
          go_simp
          refine hK _ _ rfl (Below.refl _ _) (by first | rfl | simp) (fun h => by cases h)
        · go_simp
          refine hK _ _ rfl (Below.refl _ _) (by first | rfl | simp) (fun h => by cases h)
        · go_simp
          refine hK _ _ rfl (Below.refl _ _) (by first | rfl | simp) (fun h => by cases h)
        · have d3 : vals 3 = _ := hd 3 (by decide +kernel)
          have d4 : vals 4 = _ := hd 4 (by decide +kernel)
          rw [d3, d4]
          go_simp
          refine hK _ _ rfl (Below.refl _ _) (by first | rfl | simp) (fun h => by cases h)
        · have d2 : vals 2 = _ := hd 2 (by decide +kernel)
          have d5 : vals 5 = _ := hd 5 (by decide +kernel)
          rw [d2, d5]
          go_simp
          go_at_call 44
          with_reducible refine (mulOf_c (HS.out.below hS) (HS.out.below hS) 128 (by decide) (by decide) (by decide)).mono ?_
          rintro e w2 ⟨r0, r1, r2, rfl, f0, bn_r⟩
          refine hK _ _ rfl bn_r ⟨_, _, _, rfl, f0⟩ (fun h => by cases h)
      case hfin16 =>
        intro vals wr hS hP hne
        obtain ⟨A_6_0, n_6_1, n_6_2, ez_6, h_6_0⟩ := hP 6 (by decide)
        have H3 := Lib.hid h_6_0
        have HO3 := Lib.hid (HO.out.below hS (Nat.le_refl _))
        have HB3 := Lib.hid (below_two HB.out hS)
        have hn3 : n_6_1 ≤ 128 := h_6_0.le
        clear HS HO HB hz0
        try dsimp only
        rw [ez_6]
        refine wpAny_ready (rs := [7]) (by kernel_rfl) (by simp) (AllReady.cons rfl (fun KC hK => ?_) AllReady.nil)
        go_simp
        refine hK _ _ ?_
        clear hK KC
        refine wpAny_done (by kernel_rfl) ?_ _
        obtain ⟨s, hs⟩ : ∃ s, s = v ^ (N / 2 ^ q) := ⟨_, rfl⟩
        have HP2 := Lib.hid hs
        clear hs h_6_0 ez_6 hS hP hne
        by_cases hbt : N.testBit q = true
        · have E : RowKit.Hid (p * p * v = s) := by show _ = _; rw [pow_bit1 HP.out hbt, ← HP2.out]
          rw [hbt] at hbit
          clear hbt HP
          go_wp2_with fail
          refine (mulOf_c H3.out (HX.out.below HB3.out) 192 (by decide) (by omega) (by omega)).mono ?_
          rintro e w4 ⟨A4, n4, c4, rfl, h4, bn⟩
          rw [E.out] at h4
          have H4 := Lib.hid h4
          have HO4 := Lib.hid (HO3.out.below bn (Nat.le_refl _))
          have HB4 := Lib.hid (below_two HB3.out bn)
          clear h4 bn HO3 HB3 H3 E hn3
          have h64d : n4 ≤ 192 := (H4.out).le
          have Hl : RowKit.Hid ((limbs s).length = n4) := H4.out.isN.len
          have Hy : RowKit.Hid (IsN w4 A4 n4 (limbs s)) := H4.out.isN
          by_cases h64 : n4 ≤ 64
          · have HQ2 : RowKit.Hid (fit64 s = true) := by show _ = _; simpa [fit64] using nn_under H4.out h64
            have Hfit : RowKit.Hid (n4 ≤ 64 ∧ 0 + n4 ≤ 64) := ⟨h64, by omega⟩
            clear HF HQ H4
            go_wp2_with (with_reducible refine wpList_copy_nat rfl (.tmp 41) (.tmp 42) rfl w.heap.size 0 64 64 A4 n4 c4 rfl rfl w.heap.size 64 zs HO4 (limbs s) Hy Hfit ?_)
            intro w5 HO5 Hoth Hbel
            have HB5 := Lib.hid (Hbel.out w HB4.out)
            have HT5 : RowKit.Hid ((lay zs 0 (limbs s)).take n4 = limbs s) := by show _ = _; have e := lay_take zs (limbs s); rwa [Hl.out] at e
            clear Hoth Hbel Hy Hfit Hl HO4 HB4
            go_wp2
            go_roundw
            case rel => exact ⟨q, n4, s, _, by omega, by go_num, rfl, h64, HP2, HQ2, HT5, HO5, HB5⟩
            case measure => simp [intOf]
          · have Hf0 : RowKit.Hid (f = false) := by
              show _ = _
              have hn := nn_over H4.out h64
              rw [HP2.out] at hn
              rw [← HF.out]; exact fit64_up hn (Nat.div_le_self _ _)
            clear HF HQ HP2 H4 HO4 Hy Hl
            go_wp2
            go_ret2
            exact ⟨none, 0, 0, by rw [Hf0.out]; rfl, (fun h => absurd (Hf0.out.symm.trans h) (by decide)), HB4.out⟩
        · have hbt : N.testBit q = false := by simpa using hbt
          have E : p * p = s := by rw [pow_bit0 HP.out hbt, ← HP2.out]
          rw [E] at H3
          rw [hbt] at hbit
          clear hbt HP E hn3
          have h64d : n_6_1 ≤ 128 := (H3.out).le
          have Hl : RowKit.Hid ((limbs s).length = n_6_1) := H3.out.isN.len
          have Hy : RowKit.Hid (IsN wr A_6_0 n_6_1 (limbs s)) := H3.out.isN
          by_cases h64 : n_6_1 ≤ 64
          · have HQ2 : RowKit.Hid (fit64 s = true) := by show _ = _; simpa [fit64] using nn_under H3.out h64
            have Hfit : RowKit.Hid (n_6_1 ≤ 64 ∧ 0 + n_6_1 ≤ 64) := ⟨h64, by omega⟩
            clear HF HQ H3
            go_wp2_with (with_reducible refine wpList_copy_nat rfl (.tmp 41) (.tmp 42) rfl w.heap.size 0 64 64 A_6_0 n_6_1 n_6_2 rfl rfl w.heap.size 64 zs HO3 (limbs s) Hy Hfit ?_)
            intro w5 HO5 Hoth Hbel
            have HB5 := Lib.hid (Hbel.out w HB3.out)
            have HT5 : RowKit.Hid ((lay zs 0 (limbs s)).take n_6_1 = limbs s) := by show _ = _; have e := lay_take zs (limbs s); rwa [Hl.out] at e
            clear Hoth Hbel Hy Hfit Hl HO3 HB3
            go_wp2
            go_roundw
            case rel => exact ⟨q, n_6_1, s, _, by omega, by go_num, rfl, h64, HP2, HQ2, HT5, HO5, HB5⟩
            case measure => simp [intOf]
          · have Hf0 : RowKit.Hid (f = false) := by
              show _ = _
              have hn := nn_over H3.out h64
              rw [HP2.out] at hn
              rw [← HF.out]; exact fit64_up hn (Nat.div_le_self _ _)
            clear HF HQ HP2 H3 HO3 Hy Hl
            go_wp2
            go_ret2
            exact ⟨none, 0, 0, by rw [Hf0.out]; rfl, (fun h => absurd (Hf0.out.symm.trans h) (by decide)), HB3.out⟩

end Go.Proofs.Ytmifgblbicnimaa

/- What package whole's Trim answers, as a contract over memory: whole numbers in the shortest limbs, 0 not below 0. Conditions: sizes of at most so many limbs; the table of powers of ten where texts are made or read. -/
namespace Go.Proofs.Ytmifgblbicnimaa
open Go.RowKit Limb
set_option linter.unusedVariables false
section
variable {w : World} {s s' : Bool} {A A' : Option Addr} {n c n' c' : Nat} {xs ys : List Nat} {x y : Int} {L L' : Nat}
set_option maxHeartbeats 4000000 in
set_option maxRecDepth 100000 in
theorem wTrim_c (hx : ZZ w s A n c xs x L) (h1 : L ≤ 100000) :
    Calls Try.prog 66 #[.agg #[.bool s, .slice A n c]] w fun e w' => ∃ A2 n2 c2, e = .returned (.agg #[.bool (sg x), .slice A2 n2 c2]) ∧ ZZ w' (sg x) A2 n2 c2 (limbs x.natAbs) x L ∧ Below w.heap.size w w' := by
  have HS := Lib.hid hx.zof
  have b0 := below_new w (.cells #[Value.bool s, Value.slice A n c] 25)
  have bz := below_new (w.alloc (.cells #[Value.bool s, Value.slice A n c] 25)) zbox
  have HW := Lib.hid (below_two b0 bz)
  have HN := Lib.hid (hx.nn.below HW.out)
  have r0 := (row2_new w 25 (.bool s) (.slice A n c)).below bz
  have rz : ZB ((w.alloc (.cells #[Value.bool s, Value.slice A n c] 25)).alloc zbox) (w.alloc (.cells #[Value.bool s, Value.slice A n c] 25)).heap.size := row2_new (w.alloc (.cells #[Value.bool s, Value.slice A n c] 25)) _ _ _
  simp only [World.size_alloc] at rz
  clear b0 bz hx
  go_enter Try.func66, Try.ntmps66
  go_wp2
  generalize (w.alloc (.cells #[Value.bool s, Value.slice A n c] 25)).alloc zbox = w1 at *
  have HR0 := Lib.hid r0
  have c00 := r0.c0
  have c01 := r0.c1
  have HZ := Lib.hid rz
  clear r0 rz
  clear c00 c01
  refine region_free 6 1 [3, 4, 5, 6, 7, 8] ?aF (fun wx => Below w1.heap.size w1 wx) (fun k v wx => match k with
      | 0 => v = .pointer (some ⟨w.heap.size, 0, none⟩)
      | 1 => v = .bool s
      | 2 => v = .pointer (some ⟨w.heap.size, 1, none⟩)
      | 3 => v = .slice A n c
      | 4 => ∃ A2 n2 c2, v = .slice A2 n2 c2 ∧ NN wx A2 n2 c2 (limbs x.natAbs) x.natAbs L
      | _ => ∃ A2 n2 c2, v = .agg #[.bool (sg x), .slice A2 n2 c2] ∧ ZZ wx (sg x) A2 n2 c2 (limbs x.natAbs) x L)
    (fun _ => false) (by kernel_rfl) ?haF rfl (by kernel_rfl) (by kernel_rfl) (fun _ _ _ _ _ h => h) ?hSb ?hPb ?hS ?hop ?hfin
  case haF =>
    intro vals
    simp only [fillAll, List.getElem?_cons_zero, List.getElem?_cons_succ, Act.put, List.setIfInBounds_toArray, List.set_cons_zero, List.set_cons_succ]
    exact rfl
  case hSb => exact fun wx w2 hb hS => below_two hS hb
  case hPb =>
    intro k v wa wb hb h
    match k, h with
    | 0, h => exact h
    | 1, h => exact h
    | 2, h => exact h
    | 3, h => exact h
    | 4, ⟨A2, n2, c2, h1, h2⟩ => exact ⟨A2, n2, c2, h1, h2.below hb⟩
    | _ + 5, ⟨A2, n2, c2, h1, h2⟩ => exact ⟨A2, n2, c2, h1, h2.below hb⟩
  case hS => exact (Below.refl _ _).drew
  case hop =>
    refine .cons (k := 0) ?_ (.cons (k := 1) ?_ (.cons (k := 2) ?_ (.cons (k := 3) ?_ (.cons (k := 4) ?_ (.cons (k := 5) ?_ (.nil))))))
    all_goals intro vals wr hS hd KC hK
    all_goals (show Oper.wp _ _ _ _ _ _; dsimp only)
    · go_simp
      refine hK _ _ rfl (Below.refl _ _) rfl (fun h => by cases h)
    · have d0 : vals 0 = _ := hd 0 (by decide +kernel)
      rw [d0]
      have c0 := (HR0.out.below hS).c0
      go_simp
      refine hK _ _ rfl (Below.refl _ _) rfl (fun h => by cases h)
    · go_simp
      refine hK _ _ rfl (Below.refl _ _) rfl (fun h => by cases h)
    · have d2 : vals 2 = _ := hd 2 (by decide +kernel)
      rw [d2]
      have c0 := (HR0.out.below hS).c1
      go_simp
      refine hK _ _ rfl (Below.refl _ _) rfl (fun h => by cases h)
    · have d3 : vals 3 = _ := hd 3 (by decide +kernel)
      rw [d3]
      go_simp
      go_at_call 63
      with_reducible refine (trim_c (HN.out.below hS) (by omega)).mono ?_
      rintro e w2 ⟨A_r, n_r, c_r, rfl, h_r, bn_r⟩
      refine hK _ _ rfl bn_r ⟨_, _, _, rfl, h_r⟩ (fun h => by cases h)
    · have d1 : vals 1 = _ := hd 1 (by decide +kernel)
      obtain ⟨A_m, n_m, c_m, d4, h_m⟩ := hd 4 (by decide +kernel)
      rw [d1, d4]
      go_simp
      go_at_call 62
      with_reducible refine (signed_c h_m _ x (by first | exact HS.out | simpa using HS.out)).mono ?_
      rintro e w2 ⟨rfl, h_r, bn_r⟩
      refine hK _ _ rfl bn_r ⟨_, _, _, rfl, h_r⟩ (fun h => by cases h)
  case hfin =>
    intro vals wr hS hP hne
    obtain ⟨A2, n2, c2, ez, h3⟩ := hP 5 (by decide)
    have hZ3 := HZ.out.below hS
    obtain ⟨e0, e1, f0, f1⟩ := hZ3.cells
    try dsimp only
    rw [ez]
    have HF := Lib.hid (hZ3.fill (.bool (sg x)) (.slice A2 n2 c2))
    have HP := Lib.hid (h3.put hZ3 (.bool (sg x)) (.slice A2 n2 c2))
    have HB := Lib.hid (below_fill (g := w.heap.size + 1) (below_two HW.out hS) (by omega) (.bool (sg x)) (.slice A2 n2 c2))
    refine wpAny_ready (rs := [6]) (by kernel_rfl) (by simp) (AllReady.cons rfl (fun KC hK => ?_) AllReady.nil)
    go_simp
    refine hK _ _ ?_
    clear hK KC
    refine wpAny_done (by kernel_rfl) ?_ _
    go_wp2
    refine bodyPost_ret (results_cell_row rfl _ _ (w.heap.size + 1) 25 #[.bool (sg x), .slice A2 n2 c2] (0, 0) _ rfl HF.out Try.underlying25 rfl int_size) rfl ?_
    exact ⟨A2, n2, c2, rfl, HP.out, HB.out⟩
end

end Go.Proofs.Ytmifgblbicnimaa

/- What package rat's Of answers, as a contract over memory. Conditions: sizes of at most so many limbs. -/
namespace Go.Proofs.Ytmifgblbicnimaa
open Go.RowKit Limb
set_option linter.unusedVariables false
section
variable {w : World} {s s' : Bool} {A B A' B' : Option Addr} {n c m d n' c' m' d' : Nat} {xs ys xs' ys' : List Nat} {x y : Int} {a b L L' : Nat}
set_option maxHeartbeats 4000000 in
set_option maxRecDepth 100000 in
theorem rOf_c (hx : ZZ w s A n c xs x L) (hy : NN w B m d ys b L') (h1 : L ≤ 10000) (h2 : L' ≤ 10000) (r : Option Rat) (e : Int) (hR : ofR x b = (r, e)) :
    Calls Try.prog 42 #[.agg #[.bool s, .slice A n c], .slice B m d] w fun ee w' => ∃ A2 n2 c2 B2 m2 d2, ee = .returned (.tuple #[.agg #[.bool (sg (oTop r)), .slice A2 n2 c2, .slice B2 m2 d2], .int .i64 e]) ∧ QT w' A2 n2 c2 B2 m2 d2 r ∧ Below w.heap.size w w' := by
  have b0 := below_new w (.cells #[Value.bool s, Value.slice A n c] 25)
  have b1 := below_new (w.alloc (.cells #[Value.bool s, Value.slice A n c] 25)) (.cells #[Value.bool false, Value.slice none 0 0, Value.slice none 0 0] 27)
  have HW := Lib.hid (below_two b0 b1)
  have HX := Lib.hid (hx.below HW.out)
  have HY := Lib.hid (hy.below HW.out)
  have r0 := (row2_new w 25 (.bool s) (.slice A n c)).below b1
  have rz := row3_new (w.alloc (.cells #[Value.bool s, Value.slice A n c] 25)) 27 (.bool false) (.slice none 0 0) (.slice none 0 0)
  simp only [World.size_alloc] at rz
  have Hq : RowKit.Hid (w.heap.size ≤ w.heap.size + 1) := Nat.le_succ _
  clear b0 b1 hx hy
  by_cases hb : b = 0
  · obtain ⟨rfl, rfl⟩ := ofR_zero hb hR
    clear hR
    have HB0 : RowKit.Hid (((blen b : Nat) : Int) = 0) := by show _ = _; rw [hb]; rfl
    clear hb
    go_enter Try.func42, Try.ntmps42
    go_wp2_with fail
    generalize (w.alloc (.cells #[Value.bool s, Value.slice A n c] 25)).alloc (.cells #[Value.bool false, Value.slice none 0 0, Value.slice none 0 0] 27) = w1 at *
    have HR0 := Lib.hid r0
    have HZ := Lib.hid rz
    clear r0 rz
    refine (bits_c HY.out (by omega) 0 HB0.out).mono ?_
    rintro e w2 ⟨rfl, rfl⟩
    have e0 := HZ.out.c0
    have e1 := HZ.out.c1
    have e2 := HZ.out.c2
    have f0 := HZ.out.free 0
    have f1 := HZ.out.free 1
    have f2 := HZ.out.free 2
    have HF := Lib.hid (HZ.out.fill (.bool false) (.slice none 0 0) (.slice none 0 0))
    have HB := Lib.hid (below_fill3' HW.out Hq.out (.bool false) (.slice none 0 0) (.slice none 0 0))
    go_wp2
    refine bodyPost_ret (results_mixed rfl _ _ _ 27 #[.bool false, .slice none 0 0, .slice none 0 0] (0, 0) _ (.int .i64 3) rfl rfl HF.out Try.underlying27 rfl rat_size) rfl ?_
    exact ⟨none, 0, 0, none, 0, 0, rfl, qt_none _ 0 0, HB.out⟩
  · have hL := ofR_yes hb hR
    clear hR
    obtain ⟨q, hq⟩ : ∃ q, mkRat x b = q := ⟨_, rfl⟩
    rw [hq] at hL
    obtain ⟨g, hg⟩ : ∃ g, gcdN x.natAbs b = g := ⟨_, rfl⟩
    have hg2 : Nat.gcd x.natAbs b = g := hg
    have hg0 : g ≠ 0 := by rw [← hg2]; exact Nat.pos_iff_ne_zero.1 (Nat.gcd_pos_of_pos_right _ (Nat.pos_of_ne_zero hb))
    have m3 := mk_den (x := x) hb
    rw [hq, hg2] at m3
    have HS : RowKit.Hid (zOf s (x.natAbs / g) = q.num) := by
      show _ = _
      rw [← hg2, ← hq]; exact zz_div HX.out.zo hb
    have HD : RowKit.Hid (b / g = q.den) := m3.symm
    have Hg := Lib.hid hg
    have HG : RowKit.Hid (gcdN x.natAbs b < 4294967296 ^ L') := Nat.lt_of_le_of_lt (Nat.gcd_le_right _ (Nat.pos_of_ne_zero hb)) (lt_pow HY.out)
    obtain ⟨z, hz⟩ : ∃ z : Int, ((blen b : Nat) : Int) = z := ⟨_, rfl⟩
    have hz0 : (z == 0) = false := by
      rw [beq_eq_false_iff_ne, ← hz]
      have := mt blen_eq_zero.1 hb
      omega
    have HB0 := Lib.hid hz
    have Hg0 := Lib.hid hg0
    clear hz hb hg hg2 hg0 m3 hq
    go_enter Try.func42, Try.ntmps42
    go_wp2_with fail
    generalize (w.alloc (.cells #[Value.bool s, Value.slice A n c] 25)).alloc (.cells #[Value.bool false, Value.slice none 0 0, Value.slice none 0 0] 27) = w1 at *
    have HR0 := Lib.hid r0
    have HZ := Lib.hid rz
    clear r0 rz
    refine (bits_c HY.out (by omega) z HB0.out).mono ?_
    rintro e w2 ⟨rfl, rfl⟩
    have c0 := HR0.out.c0
    have c1 := HR0.out.c1
    go_wp2_with fail
    clear c0 c1
    refine (quoGcd_c HX.out.nn HY.out (by omega) (by omega) L' HG.out).mono ?_
    rw [Hg.out]
    rintro e w2 ⟨A3, n3, c3, rfl, h3, bn⟩
    replace HX := Lib.hid (HX.out.below bn)
    replace HY := Lib.hid (HY.out.below bn)
    replace HR0 := Lib.hid (HR0.out.below bn)
    replace HZ := Lib.hid (HZ.out.below bn)
    replace HW := Lib.hid (below_two HW.out bn)
    clear bn
    have H3 := Lib.hid h3
    clear h3
    have c0 := HR0.out.c0
    have c1 := HR0.out.c1
    go_wp2_with fail
    clear c0 c1
    refine (quoRem_yes HX.out.nn H3.out (by omega) (by omega) Hg0.out).mono ?_
    rintro e w2 ⟨A4, n4, c4, A5, n5, c5, rfl, h4, h5, bn⟩
    replace HX := Lib.hid (HX.out.below bn)
    replace HY := Lib.hid (HY.out.below bn)
    replace HR0 := Lib.hid (HR0.out.below bn)
    replace HZ := Lib.hid (HZ.out.below bn)
    replace H3 := Lib.hid (H3.out.below bn)
    replace HW := Lib.hid (below_two HW.out bn)
    clear bn
    have H4 := Lib.hid h4
    clear h4 h5
    have c0 := HR0.out.c0
    have c1 := HR0.out.c1
    go_wp2_with fail
    clear c0 c1
    refine (quoRem_yes HY.out H3.out (by omega) (by omega) Hg0.out).mono ?_
    rintro e w2 ⟨A6, n6, c6, A7, n7, c7, rfl, h6, h7, bn⟩
    replace HX := Lib.hid (HX.out.below bn)
    replace HY := Lib.hid (HY.out.below bn)
    replace HR0 := Lib.hid (HR0.out.below bn)
    replace HZ := Lib.hid (HZ.out.below bn)
    replace H3 := Lib.hid (H3.out.below bn)
    replace H4 := Lib.hid (H4.out.below bn)
    replace HW := Lib.hid (below_two HW.out bn)
    clear bn
    have H6 : RowKit.Hid (NN w2 A6 n6 c6 (limbs q.den) q.den L') := by show NN _ _ _ _ _ _ _; rw [← HD.out]; exact h6
    clear h6 h7
    have c0 := HR0.out.c0
    have c1 := HR0.out.c1
    go_wp2_with fail
    clear c0 c1
    refine (wTrim_c (show ZZ _ s _ _ _ _ q.num L from by rw [← HS.out]; exact ZZ.of H4.out) (by omega)).mono ?_
    rintro e w2 ⟨A8, n8, c8, rfl, h8, bn⟩
    replace HX := Lib.hid (HX.out.below bn)
    replace HY := Lib.hid (HY.out.below bn)
    replace HR0 := Lib.hid (HR0.out.below bn)
    replace HZ := Lib.hid (HZ.out.below bn)
    replace H3 := Lib.hid (H3.out.below bn)
    replace H4 := Lib.hid (H4.out.below bn)
    replace H6 := Lib.hid (H6.out.below bn)
    replace HW := Lib.hid (below_two HW.out bn)
    clear bn
    have H8 := Lib.hid h8
    clear h8 HX HY H3 H4
    cases hf : fitsQ q with
    | true =>
      rw [limR_yes hf] at hL
      cases hL
      have HK : RowKit.Hid ((decide (n8 ≤ 64) && decide (n6 ≤ 64)) = true) := by show _ = _; rw [fits_len q H8.out.nn.isN.len H6.out.isN.len, hf]
      have Hf := Lib.hid hf
      clear hf
      have bx := below_new w2 (.cells #[Value.bool (sg q.num), Value.slice A8 n8 c8, Value.slice A6 n6 c6] 27)
      have HR8 := Lib.hid (row3_new w2 27 (.bool (sg q.num)) (.slice A8 n8 c8) (.slice A6 n6 c6))
      replace H8 := Lib.hid (H8.out.below bx)
      replace H6 := Lib.hid (H6.out.below bx)
      replace HZ := Lib.hid (HZ.out.below bx)
      replace HW := Lib.hid (below_two HW.out bx)
      clear bx HR0
      have e0 := HZ.out.c0
      have e1 := HZ.out.c1
      have e2 := HZ.out.c2
      have y0 := HR8.out.c0
      have y1 := HR8.out.c1
      have y2 := HR8.out.c2
      go_wp2_with fail
      clear y0 y1 y2 e0 e1 e2
      generalize w2.alloc (.cells #[Value.bool (sg q.num), Value.slice A8 n8 c8, Value.slice A6 n6 c6] 27) = w3 at *
      obtain ⟨q8, eg⟩ : ∃ g, g = w2.heap.size := ⟨_, rfl⟩
      rw [← eg] at HR8 ⊢
      clear eg
      refine (rFits_c (sg q.num) A8 A6 n8 c8 n6 c6 _ true HK.out).mono ?_
      rintro e w4 ⟨rfl, bn⟩
      replace H8 := Lib.hid (H8.out.below bn)
      replace H6 := Lib.hid (H6.out.below bn)
      replace HZ := Lib.hid (HZ.out.below bn)
      replace HR8 := Lib.hid (HR8.out.below bn)
      replace HW := Lib.hid (below_two HW.out bn)
      clear bn
      have y0 := HR8.out.c0
      have y1 := HR8.out.c1
      have y2 := HR8.out.c2
      have e0 := HZ.out.c0
      have e1 := HZ.out.c1
      have e2 := HZ.out.c2
      have f0 := HZ.out.free 0
      have f1 := HZ.out.free 1
      have f2 := HZ.out.free 2
      have hNo := HZ.out.noLimb (by intro v e; cases e) (by intro v e; cases e) (by intro v e; cases e)
      have HF := Lib.hid (HZ.out.fill (.bool (sg q.num)) (.slice A8 n8 c8) (.slice A6 n6 c6))
      have HP := Lib.hid ((qt_some H8.out H6.out Hf.out).fillR3 hNo (.bool (sg q.num)) (.slice A8 n8 c8) (.slice A6 n6 c6))
      have HB := Lib.hid (below_fill3' HW.out Hq.out (.bool (sg q.num)) (.slice A8 n8 c8) (.slice A6 n6 c6))
      clear hNo
      go_wp2
      refine bodyPost_ret (results_mixed rfl _ _ _ 27 #[.bool (sg q.num), .slice A8 n8 c8, .slice A6 n6 c6] (0, 0) _ (.int .i64 0) rfl rfl HF.out Try.underlying27 rfl rat_size) rfl ?_
      exact ⟨A8, n8, c8, A6, n6, c6, rfl, HP.out, HB.out⟩
    | false =>
      rw [limR_no hf] at hL
      cases hL
      have HK : RowKit.Hid ((decide (n8 ≤ 64) && decide (n6 ≤ 64)) = false) := by show _ = _; rw [fits_len q H8.out.nn.isN.len H6.out.isN.len, hf]
      have Hf := Lib.hid hf
      clear hf
      have bx := below_new w2 (.cells #[Value.bool (sg q.num), Value.slice A8 n8 c8, Value.slice A6 n6 c6] 27)
      have HR8 := Lib.hid (row3_new w2 27 (.bool (sg q.num)) (.slice A8 n8 c8) (.slice A6 n6 c6))
      replace H8 := Lib.hid (H8.out.below bx)
      replace H6 := Lib.hid (H6.out.below bx)
      replace HZ := Lib.hid (HZ.out.below bx)
      replace HW := Lib.hid (below_two HW.out bx)
      clear bx HR0
      have e0 := HZ.out.c0
      have e1 := HZ.out.c1
      have e2 := HZ.out.c2
      have y0 := HR8.out.c0
      have y1 := HR8.out.c1
      have y2 := HR8.out.c2
      go_wp2_with fail
      clear y0 y1 y2 e0 e1 e2
      generalize w2.alloc (.cells #[Value.bool (sg q.num), Value.slice A8 n8 c8, Value.slice A6 n6 c6] 27) = w3 at *
      obtain ⟨q8, eg⟩ : ∃ g, g = w2.heap.size := ⟨_, rfl⟩
      rw [← eg] at HR8 ⊢
      clear eg
      refine (rFits_c (sg q.num) A8 A6 n8 c8 n6 c6 _ false HK.out).mono ?_
      rintro e w4 ⟨rfl, bn⟩
      replace H8 := Lib.hid (H8.out.below bn)
      replace H6 := Lib.hid (H6.out.below bn)
      replace HZ := Lib.hid (HZ.out.below bn)
      replace HR8 := Lib.hid (HR8.out.below bn)
      replace HW := Lib.hid (below_two HW.out bn)
      clear bn
      have e0 := HZ.out.c0
      have e1 := HZ.out.c1
      have e2 := HZ.out.c2
      have f0 := HZ.out.free 0
      have f1 := HZ.out.free 1
      have f2 := HZ.out.free 2
      have HF := Lib.hid (HZ.out.fill (.bool false) (.slice none 0 0) (.slice none 0 0))
      have HB := Lib.hid (below_fill3' HW.out Hq.out (.bool false) (.slice none 0 0) (.slice none 0 0))
      go_wp2
      refine bodyPost_ret (results_mixed rfl _ _ _ 27 #[.bool false, .slice none 0 0, .slice none 0 0] (0, 0) _ (.int .i64 2) rfl rfl HF.out Try.underlying27 rfl rat_size) rfl ?_
      exact ⟨none, 0, 0, none, 0, 0, rfl, qt_none _ 0 0, HB.out⟩

end
end Go.Proofs.Ytmifgblbicnimaa

/- What package power's raise answers, as a contract over memory. Conditions: sizes of at most 64 limbs, exponents of at most 600. -/
namespace Go.Proofs.Ytmifgblbicnimaa
open Go.RowKit Limb
set_option linter.unusedVariables false
/-- The sign of a power. -/
theorem sg_pow (x : Int) (n : Nat) : sg (x ^ n) = (sg x && decide (n % 2 = 1)) := by
  have h := zOf_pow (x := x) n
  cases hb : (sg x && decide (n % 2 = 1)) with
  | false =>
    rw [hb] at h
    refine sg_pos ?_
    rw [← h]; unfold zOf; rw [if_neg (by decide)]; omega
  | true =>
    rw [hb] at h
    refine sg_neg ?_
    rw [← h]; unfold zOf; rw [if_pos rfl]
    have hx : sg x = true := by cases hs : sg x with
      | true => rfl
      | false => rw [hs] at hb; simp at hb
    have hx2 : x < 0 := by simpa [sg] using hx
    have h3 : 0 < x.natAbs ^ n := Nat.pow_pos (by omega)
    omega
theorem sg_zOf {s : Bool} {a : Nat} (h : a ≠ 0) : sg (zOf s a) = s := by
  cases s with
  | true => refine sg_neg ?_; unfold zOf; rw [if_pos rfl]; omega
  | false => refine sg_pos ?_; unfold zOf; rw [if_neg (by decide)]; omega
/-- A power by what is not below 0, its sign, its top and its bottom. -/
theorem pow_up (q : Rat) (N : Nat) : (q ^ (N : Int)).num.natAbs = q.num.natAbs ^ N ∧ (q ^ (N : Int)).den = q.den ^ N ∧ sg (q ^ (N : Int)).num = (sg q.num && decide (N % 2 = 1)) := by
  rw [Rat.zpow_natCast, Rat.num_pow, Rat.den_pow, Int.natAbs_pow]
  exact ⟨rfl, rfl, sg_pow _ _⟩
/-- A power by what is below 0. -/
theorem pow_down {q : Rat} (hq : q.num ≠ 0) (N : Nat) : (q ^ (-(N : Int))).num.natAbs = q.den ^ N ∧ (q ^ (-(N : Int))).den = q.num.natAbs ^ N ∧ sg (q ^ (-(N : Int))).num = (sg q.num && decide (N % 2 = 1)) := by
  have h0 : (q ^ N).num ≠ 0 := num_of_ne (npow_ne (num_ne hq) N)
  obtain ⟨h1, h2⟩ := inv_told h0
  rw [Rat.zpow_neg, Rat.zpow_natCast, h1, h2, zOf_abs, Rat.num_pow, Rat.den_pow, Int.natAbs_pow]
  refine ⟨rfl, rfl, ?_⟩
  rw [sg_zOf (Nat.pos_iff_ne_zero.1 (Nat.pow_pos (Nat.pos_of_ne_zero q.den_nz)))]
  exact sg_pow _ _
theorem fits_of {z : Rat} {a b : Nat} (h1 : z.num.natAbs = a) (h2 : z.den = b) : fitsQ z = (fit64 a && fit64 b) := by
  unfold fitsQ fit64; rw [h1, h2]
theorem pSizeT_c {w : World} {A : Option Addr} {n c : Nat} {xs : List Nat} {v L : Nat} (hx : NN w A n c xs v L) (h1 : L ≤ 64) (N : Nat) (hN : N ≤ 600) (V : Int) (hV : V = (N : Int)) (P : Nat) (hP : v ^ N = P) (f : Bool) (hf : fit64 P = f) :
    Calls Try.prog 51 #[.slice A n c, .int .i64 V] w fun e w' => ∃ A2 n2 c2, e = .returned (.tuple #[.slice A2 n2 c2, .bool f]) ∧ (f = true → NN w' A2 n2 c2 (limbs P) P 64) ∧ Below w.heap.size w w' := by
  subst hP; subst hV; exact pSize_c hx h1 N hN f hf

section
variable {w : World} {s s' : Bool} {A B A' B' : Option Addr} {n c m d n' c' m' d' : Nat} {xs ys xs' ys' : List Nat} {x y : Int} {q : Rat} {a b L L' : Nat}
set_option maxHeartbeats 1000000 in
set_option maxRecDepth 100000 in
theorem pRaise_c (hx : ZZ w (sg q.num) A n c (limbs q.num.natAbs) q.num L) (hy : NN w B m d (limbs q.den) q.den L') (h1 : L ≤ 64) (h2 : L' ≤ 64) (v : Int) (v0 : -600 ≤ v) (v1 : v ≤ 600) (hq : q.num ≠ 0 ∨ 0 ≤ v) (z : Rat) (hz : q ^ v = z) (r : Option Rat) (e : Int) (hR : limR z = (r, e)) :
    Calls Try.prog 25 #[.agg #[.bool (sg q.num), .slice A n c, .slice B m d], .int .i64 v] w fun ee w' => ∃ A2 n2 c2 B2 m2 d2, ee = .returned (.tuple #[.agg #[.bool (sg (oTop r)), .slice A2 n2 c2, .slice B2 m2 d2], .int .i64 e]) ∧ QT w' A2 n2 c2 B2 m2 d2 r ∧ Below w.heap.size w w' := by
  by_cases kz : v = 0
  · have kv : 0 ≤ v := by omega
    obtain ⟨N, hN⟩ : ∃ N : Nat, v = (N : Int) := ⟨v.toNat, by omega⟩
    have hk := pow_up q N
    rw [← hN, hz] at hk
    obtain ⟨P, hP⟩ : ∃ P : Nat, q.num.natAbs ^ N = P := ⟨_, rfl⟩
    obtain ⟨D, hD⟩ : ∃ D : Nat, q.den ^ N = D := ⟨_, rfl⟩
    rw [hP, hD] at hk
    obtain ⟨hk1, hk2, hk3⟩ := hk
    have HP := Lib.hid hP
    have HD := Lib.hid hD
    have HT := Lib.hid hk1
    have HBo := Lib.hid hk2
    have HSG := Lib.hid hk3
    clear hP hD hk1 hk2 hk3
    have HN : RowKit.Hid (N ≤ 600) := by show _ ≤ _; omega
    subst hN
    clear hz hq
    have kn : N = 0 := by omega
    subst kn
    clear kz kv v0 v1
    cases kp : fit64 P with
    | false =>
      have KP := Lib.hid kp
      clear kp
      cases kd : fit64 D with
      | false =>
        have KD := Lib.hid kd
        clear kd
        have hf0 : fitsQ z = false := by rw [fits_of HT.out HBo.out]; simp [KP.out, KD.out]
        rw [limR_no hf0] at hR
        cases hR
        clear hf0
        have b0 := below_new w (.cells #[Value.bool (sg q.num), Value.slice A n c, Value.slice B m d] 27)
        have b1 := below_new (w.alloc (.cells #[Value.bool (sg q.num), Value.slice A n c, Value.slice B m d] 27)) (.cells #[Value.bool false, Value.slice none 0 0, Value.slice none 0 0] 27)
        have HW := Lib.hid (below_two b0 b1)
        have HX := Lib.hid (hx.below HW.out)
        have HY := Lib.hid (hy.below HW.out)
        have r0 := (row3_new w 27 (.bool (sg q.num)) (.slice A n c) (.slice B m d)).below b1
        have rz := row3_new (w.alloc (.cells #[Value.bool (sg q.num), Value.slice A n c, Value.slice B m d] 27)) 27 (.bool false) (.slice none 0 0) (.slice none 0 0)
        simp only [World.size_alloc] at rz
        clear b0 b1 hx hy
        go_enter Try.func25, Try.ntmps25
        go_wp2_with fail
        generalize (w.alloc (.cells #[Value.bool (sg q.num), Value.slice A n c, Value.slice B m d] 27)).alloc (.cells #[Value.bool false, Value.slice none 0 0, Value.slice none 0 0] 27) = w1 at *
        have HR0 := Lib.hid r0
        have HZ := Lib.hid rz
        have Hq : RowKit.Hid (w.heap.size ≤ w.heap.size + 1) := Nat.le_succ _
        clear r0 rz
        refine (pSizeT_c HX.out.nn h1 0 HN.out 0 rfl P HP.out false KP.out).mono ?_
        rintro e w2 ⟨A3, n3, c3, rfl, h3, bn⟩
        replace HX := Lib.hid (HX.out.below bn)
        replace HY := Lib.hid (HY.out.below bn)
        replace HR0 := Lib.hid (HR0.out.below bn)
        replace HZ := Lib.hid (HZ.out.below bn)
        replace HW := Lib.hid (below_two HW.out bn)
        clear bn h3
        have c2 := HR0.out.c2
        go_wp2_with fail
        clear c2
        refine (pSizeT_c HY.out h2 0 HN.out 0 rfl D HD.out false KD.out).mono ?_
        rintro e w2 ⟨A4, n4, c4, rfl, h4, bn⟩
        replace HX := Lib.hid (HX.out.below bn)
        replace HY := Lib.hid (HY.out.below bn)
        replace HR0 := Lib.hid (HR0.out.below bn)
        replace HZ := Lib.hid (HZ.out.below bn)
        replace HW := Lib.hid (below_two HW.out bn)
        clear bn h4
        have e0 := HZ.out.c0
        have e1 := HZ.out.c1
        have e2 := HZ.out.c2
        have f0 := HZ.out.free 0
        have f1 := HZ.out.free 1
        have f2 := HZ.out.free 2
        have HF := Lib.hid (HZ.out.fill (.bool false) (.slice none 0 0) (.slice none 0 0))
        have HB := Lib.hid (below_fill3' HW.out Hq.out (.bool false) (.slice none 0 0) (.slice none 0 0))
        go_wp2
        refine bodyPost_ret (results_mixed rfl _ _ _ 27 #[.bool false, .slice none 0 0, .slice none 0 0] (0, 0) _ (.int .i64 2) rfl rfl HF.out Try.underlying27 rfl rat_size) rfl ?_
        exact ⟨none, 0, 0, none, 0, 0, rfl, qt_none _ 0 0, HB.out⟩
      | true =>
        have KD := Lib.hid kd
        clear kd
        have hf0 : fitsQ z = false := by rw [fits_of HT.out HBo.out]; simp [KP.out, KD.out]
        rw [limR_no hf0] at hR
        cases hR
        clear hf0
        have b0 := below_new w (.cells #[Value.bool (sg q.num), Value.slice A n c, Value.slice B m d] 27)
        have b1 := below_new (w.alloc (.cells #[Value.bool (sg q.num), Value.slice A n c, Value.slice B m d] 27)) (.cells #[Value.bool false, Value.slice none 0 0, Value.slice none 0 0] 27)
        have HW := Lib.hid (below_two b0 b1)
        have HX := Lib.hid (hx.below HW.out)
        have HY := Lib.hid (hy.below HW.out)
        have r0 := (row3_new w 27 (.bool (sg q.num)) (.slice A n c) (.slice B m d)).below b1
        have rz := row3_new (w.alloc (.cells #[Value.bool (sg q.num), Value.slice A n c, Value.slice B m d] 27)) 27 (.bool false) (.slice none 0 0) (.slice none 0 0)
        simp only [World.size_alloc] at rz
        clear b0 b1 hx hy
        go_enter Try.func25, Try.ntmps25
        go_wp2_with fail
        generalize (w.alloc (.cells #[Value.bool (sg q.num), Value.slice A n c, Value.slice B m d] 27)).alloc (.cells #[Value.bool false, Value.slice none 0 0, Value.slice none 0 0] 27) = w1 at *
        have HR0 := Lib.hid r0
        have HZ := Lib.hid rz
        have Hq : RowKit.Hid (w.heap.size ≤ w.heap.size + 1) := Nat.le_succ _
        clear r0 rz
        refine (pSizeT_c HX.out.nn h1 0 HN.out 0 rfl P HP.out false KP.out).mono ?_
        rintro e w2 ⟨A3, n3, c3, rfl, h3, bn⟩
        replace HX := Lib.hid (HX.out.below bn)
        replace HY := Lib.hid (HY.out.below bn)
        replace HR0 := Lib.hid (HR0.out.below bn)
        replace HZ := Lib.hid (HZ.out.below bn)
        replace HW := Lib.hid (below_two HW.out bn)
        clear bn h3
        have c2 := HR0.out.c2
        go_wp2_with fail
        clear c2
        refine (pSizeT_c HY.out h2 0 HN.out 0 rfl D HD.out true KD.out).mono ?_
        rintro e w2 ⟨A4, n4, c4, rfl, h4, bn⟩
        have H4 := Lib.hid (h4 rfl)
        replace HX := Lib.hid (HX.out.below bn)
        replace HY := Lib.hid (HY.out.below bn)
        replace HR0 := Lib.hid (HR0.out.below bn)
        replace HZ := Lib.hid (HZ.out.below bn)
        replace HW := Lib.hid (below_two HW.out bn)
        clear bn h4
        have e0 := HZ.out.c0
        have e1 := HZ.out.c1
        have e2 := HZ.out.c2
        have f0 := HZ.out.free 0
        have f1 := HZ.out.free 1
        have f2 := HZ.out.free 2
        have HF := Lib.hid (HZ.out.fill (.bool false) (.slice none 0 0) (.slice none 0 0))
        have HB := Lib.hid (below_fill3' HW.out Hq.out (.bool false) (.slice none 0 0) (.slice none 0 0))
        go_wp2
        refine bodyPost_ret (results_mixed rfl _ _ _ 27 #[.bool false, .slice none 0 0, .slice none 0 0] (0, 0) _ (.int .i64 2) rfl rfl HF.out Try.underlying27 rfl rat_size) rfl ?_
        exact ⟨none, 0, 0, none, 0, 0, rfl, qt_none _ 0 0, HB.out⟩
    | true =>
      have KP := Lib.hid kp
      clear kp
      cases kd : fit64 D with
      | false =>
        have KD := Lib.hid kd
        clear kd
        have hf0 : fitsQ z = false := by rw [fits_of HT.out HBo.out]; simp [KP.out, KD.out]
        rw [limR_no hf0] at hR
        cases hR
        clear hf0
        have b0 := below_new w (.cells #[Value.bool (sg q.num), Value.slice A n c, Value.slice B m d] 27)
        have b1 := below_new (w.alloc (.cells #[Value.bool (sg q.num), Value.slice A n c, Value.slice B m d] 27)) (.cells #[Value.bool false, Value.slice none 0 0, Value.slice none 0 0] 27)
        have HW := Lib.hid (below_two b0 b1)
        have HX := Lib.hid (hx.below HW.out)
        have HY := Lib.hid (hy.below HW.out)
        have r0 := (row3_new w 27 (.bool (sg q.num)) (.slice A n c) (.slice B m d)).below b1
        have rz := row3_new (w.alloc (.cells #[Value.bool (sg q.num), Value.slice A n c, Value.slice B m d] 27)) 27 (.bool false) (.slice none 0 0) (.slice none 0 0)
        simp only [World.size_alloc] at rz
        clear b0 b1 hx hy
        go_enter Try.func25, Try.ntmps25
        go_wp2_with fail
        generalize (w.alloc (.cells #[Value.bool (sg q.num), Value.slice A n c, Value.slice B m d] 27)).alloc (.cells #[Value.bool false, Value.slice none 0 0, Value.slice none 0 0] 27) = w1 at *
        have HR0 := Lib.hid r0
        have HZ := Lib.hid rz
        have Hq : RowKit.Hid (w.heap.size ≤ w.heap.size + 1) := Nat.le_succ _
        clear r0 rz
        refine (pSizeT_c HX.out.nn h1 0 HN.out 0 rfl P HP.out true KP.out).mono ?_
        rintro e w2 ⟨A3, n3, c3, rfl, h3, bn⟩
        have H3 := Lib.hid (h3 rfl)
        replace HX := Lib.hid (HX.out.below bn)
        replace HY := Lib.hid (HY.out.below bn)
        replace HR0 := Lib.hid (HR0.out.below bn)
        replace HZ := Lib.hid (HZ.out.below bn)
        replace HW := Lib.hid (below_two HW.out bn)
        clear bn h3
        have c2 := HR0.out.c2
        go_wp2_with fail
        clear c2
        refine (pSizeT_c HY.out h2 0 HN.out 0 rfl D HD.out false KD.out).mono ?_
        rintro e w2 ⟨A4, n4, c4, rfl, h4, bn⟩
        replace HX := Lib.hid (HX.out.below bn)
        replace HY := Lib.hid (HY.out.below bn)
        replace HR0 := Lib.hid (HR0.out.below bn)
        replace HZ := Lib.hid (HZ.out.below bn)
        replace H3 := Lib.hid (H3.out.below bn)
        replace HW := Lib.hid (below_two HW.out bn)
        clear bn h4
        have e0 := HZ.out.c0
        have e1 := HZ.out.c1
        have e2 := HZ.out.c2
        have f0 := HZ.out.free 0
        have f1 := HZ.out.free 1
        have f2 := HZ.out.free 2
        have HF := Lib.hid (HZ.out.fill (.bool false) (.slice none 0 0) (.slice none 0 0))
        have HB := Lib.hid (below_fill3' HW.out Hq.out (.bool false) (.slice none 0 0) (.slice none 0 0))
        go_wp2
        refine bodyPost_ret (results_mixed rfl _ _ _ 27 #[.bool false, .slice none 0 0, .slice none 0 0] (0, 0) _ (.int .i64 2) rfl rfl HF.out Try.underlying27 rfl rat_size) rfl ?_
        exact ⟨none, 0, 0, none, 0, 0, rfl, qt_none _ 0 0, HB.out⟩
      | true =>
        have KD := Lib.hid kd
        clear kd
        have hf0 : fitsQ z = true := by rw [fits_of HT.out HBo.out]; simp [KP.out, KD.out]
        rw [limR_yes hf0] at hR
        cases hR
        have Hf := Lib.hid hf0
        clear hf0
        cases ks : sg q.num with
        | false =>
          have b0 := below_new w (.cells #[Value.bool false, Value.slice A n c, Value.slice B m d] 27)
          have b1 := below_new (w.alloc (.cells #[Value.bool false, Value.slice A n c, Value.slice B m d] 27)) (.cells #[Value.bool false, Value.slice none 0 0, Value.slice none 0 0] 27)
          have HW := Lib.hid (below_two b0 b1)
          have HX := Lib.hid (hx.below HW.out)
          have HY := Lib.hid (hy.below HW.out)
          have r0 := (row3_new w 27 (.bool false) (.slice A n c) (.slice B m d)).below b1
          have rz := row3_new (w.alloc (.cells #[Value.bool false, Value.slice A n c, Value.slice B m d] 27)) 27 (.bool false) (.slice none 0 0) (.slice none 0 0)
          simp only [World.size_alloc] at rz
          clear b0 b1 hx hy
          go_enter Try.func25, Try.ntmps25
          go_wp2_with fail
          generalize (w.alloc (.cells #[Value.bool false, Value.slice A n c, Value.slice B m d] 27)).alloc (.cells #[Value.bool false, Value.slice none 0 0, Value.slice none 0 0] 27) = w1 at *
          have HR0 := Lib.hid r0
          have HZ := Lib.hid rz
          have Hq : RowKit.Hid (w.heap.size ≤ w.heap.size + 1) := Nat.le_succ _
          clear r0 rz
          refine (pSizeT_c HX.out.nn h1 0 HN.out 0 rfl P HP.out true KP.out).mono ?_
          rintro e w2 ⟨A3, n3, c3, rfl, h3, bn⟩
          have H3 := Lib.hid (h3 rfl)
          replace HX := Lib.hid (HX.out.below bn)
          replace HY := Lib.hid (HY.out.below bn)
          replace HR0 := Lib.hid (HR0.out.below bn)
          replace HZ := Lib.hid (HZ.out.below bn)
          replace HW := Lib.hid (below_two HW.out bn)
          clear bn h3
          have c2 := HR0.out.c2
          go_wp2_with fail
          clear c2
          refine (pSizeT_c HY.out h2 0 HN.out 0 rfl D HD.out true KD.out).mono ?_
          rintro e w2 ⟨A4, n4, c4, rfl, h4, bn⟩
          have H4 := Lib.hid (h4 rfl)
          replace HX := Lib.hid (HX.out.below bn)
          replace HY := Lib.hid (HY.out.below bn)
          replace HR0 := Lib.hid (HR0.out.below bn)
          replace HZ := Lib.hid (HZ.out.below bn)
          replace H3 := Lib.hid (H3.out.below bn)
          replace HW := Lib.hid (below_two HW.out bn)
          clear bn h4
          have HB1 : RowKit.Hid (sg z.num = false) := by show _ = _; rw [HSG.out, ks]; rfl
          have Z5 : RowKit.Hid (ZZ w2 (sg z.num) A3 n3 c3 (limbs z.num.natAbs) z.num 64) := by
            have h := ZZ.of (s := sg z.num) H3.out
            rw [← HT.out, zz_sg] at h
            exact h
          have Z6 : RowKit.Hid (NN w2 A4 n4 c4 (limbs z.den) z.den 64) := by
            have h := H4.out
            rw [← HBo.out] at h
            exact h
          clear H3 H4
          have c0 := HR0.out.c0
          have e0 := HZ.out.c0
          have e1 := HZ.out.c1
          have e2 := HZ.out.c2
          have f0 := HZ.out.free 0
          have f1 := HZ.out.free 1
          have f2 := HZ.out.free 2
          have hNo := HZ.out.noLimb (by intro v e; cases e) (by intro v e; cases e) (by intro v e; cases e)
          have HF := Lib.hid (HZ.out.fill (.bool (sg z.num)) (.slice A3 n3 c3) (.slice A4 n4 c4))
          have HPn := Lib.hid ((qt_some Z5.out Z6.out Hf.out).fillR3 hNo (.bool (sg z.num)) (.slice A3 n3 c3) (.slice A4 n4 c4))
          have HB := Lib.hid (below_fill3' HW.out Hq.out (.bool (sg z.num)) (.slice A3 n3 c3) (.slice A4 n4 c4))
          rw [HB1.out] at HF HPn HB
          clear hNo
          go_wp2
          refine bodyPost_ret (results_mixed rfl _ _ _ 27 #[.bool false, .slice A3 n3 c3, .slice A4 n4 c4] (0, 0) _ (.int .i64 0) rfl rfl HF.out Try.underlying27 rfl rat_size) rfl ?_
          exact ⟨A3, n3, c3, A4, n4, c4, by rw [← HB1.out]; rfl, HPn.out, HB.out⟩
        | true =>
          by_cases hodd : 0 % 2 = 1
          · exact absurd hodd (by decide)
          · have b0 := below_new w (.cells #[Value.bool true, Value.slice A n c, Value.slice B m d] 27)
            have b1 := below_new (w.alloc (.cells #[Value.bool true, Value.slice A n c, Value.slice B m d] 27)) (.cells #[Value.bool false, Value.slice none 0 0, Value.slice none 0 0] 27)
            have HW := Lib.hid (below_two b0 b1)
            have HX := Lib.hid (hx.below HW.out)
            have HY := Lib.hid (hy.below HW.out)
            have r0 := (row3_new w 27 (.bool true) (.slice A n c) (.slice B m d)).below b1
            have rz := row3_new (w.alloc (.cells #[Value.bool true, Value.slice A n c, Value.slice B m d] 27)) 27 (.bool false) (.slice none 0 0) (.slice none 0 0)
            simp only [World.size_alloc] at rz
            clear b0 b1 hx hy
            go_enter Try.func25, Try.ntmps25
            go_wp2_with fail
            generalize (w.alloc (.cells #[Value.bool true, Value.slice A n c, Value.slice B m d] 27)).alloc (.cells #[Value.bool false, Value.slice none 0 0, Value.slice none 0 0] 27) = w1 at *
            have HR0 := Lib.hid r0
            have HZ := Lib.hid rz
            have Hq : RowKit.Hid (w.heap.size ≤ w.heap.size + 1) := Nat.le_succ _
            clear r0 rz
            refine (pSizeT_c HX.out.nn h1 0 HN.out 0 rfl P HP.out true KP.out).mono ?_
            rintro e w2 ⟨A3, n3, c3, rfl, h3, bn⟩
            have H3 := Lib.hid (h3 rfl)
            replace HX := Lib.hid (HX.out.below bn)
            replace HY := Lib.hid (HY.out.below bn)
            replace HR0 := Lib.hid (HR0.out.below bn)
            replace HZ := Lib.hid (HZ.out.below bn)
            replace HW := Lib.hid (below_two HW.out bn)
            clear bn h3
            have c2 := HR0.out.c2
            go_wp2_with fail
            clear c2
            refine (pSizeT_c HY.out h2 0 HN.out 0 rfl D HD.out true KD.out).mono ?_
            rintro e w2 ⟨A4, n4, c4, rfl, h4, bn⟩
            have H4 := Lib.hid (h4 rfl)
            replace HX := Lib.hid (HX.out.below bn)
            replace HY := Lib.hid (HY.out.below bn)
            replace HR0 := Lib.hid (HR0.out.below bn)
            replace HZ := Lib.hid (HZ.out.below bn)
            replace H3 := Lib.hid (H3.out.below bn)
            replace HW := Lib.hid (below_two HW.out bn)
            clear bn h4
            have HB1 : RowKit.Hid (sg z.num = false) := by show _ = _; rw [HSG.out, ks]; rw [decide_eq_false hodd]; rfl
            have Z5 : RowKit.Hid (ZZ w2 (sg z.num) A3 n3 c3 (limbs z.num.natAbs) z.num 64) := by
              have h := ZZ.of (s := sg z.num) H3.out
              rw [← HT.out, zz_sg] at h
              exact h
            have Z6 : RowKit.Hid (NN w2 A4 n4 c4 (limbs z.den) z.den 64) := by
              have h := H4.out
              rw [← HBo.out] at h
              exact h
            clear H3 H4
            have c0 := HR0.out.c0
            have e0 := HZ.out.c0
            have e1 := HZ.out.c1
            have e2 := HZ.out.c2
            have f0 := HZ.out.free 0
            have f1 := HZ.out.free 1
            have f2 := HZ.out.free 2
            have hNo := HZ.out.noLimb (by intro v e; cases e) (by intro v e; cases e) (by intro v e; cases e)
            have HF := Lib.hid (HZ.out.fill (.bool (sg z.num)) (.slice A3 n3 c3) (.slice A4 n4 c4))
            have HPn := Lib.hid ((qt_some Z5.out Z6.out Hf.out).fillR3 hNo (.bool (sg z.num)) (.slice A3 n3 c3) (.slice A4 n4 c4))
            have HB := Lib.hid (below_fill3' HW.out Hq.out (.bool (sg z.num)) (.slice A3 n3 c3) (.slice A4 n4 c4))
            rw [HB1.out] at HF HPn HB
            clear hNo
            go_wp2
            refine bodyPost_ret (results_mixed rfl _ _ _ 27 #[.bool false, .slice A3 n3 c3, .slice A4 n4 c4] (0, 0) _ (.int .i64 0) rfl rfl HF.out Try.underlying27 rfl rat_size) rfl ?_
            exact ⟨A3, n3, c3, A4, n4, c4, by rw [← HB1.out]; rfl, HPn.out, HB.out⟩
  · by_cases kv : 0 ≤ v
    · obtain ⟨N, hN⟩ : ∃ N : Nat, v = (N : Int) := ⟨v.toNat, by omega⟩
      have hk := pow_up q N
      rw [← hN, hz] at hk
      obtain ⟨P, hP⟩ : ∃ P : Nat, q.num.natAbs ^ N = P := ⟨_, rfl⟩
      obtain ⟨D, hD⟩ : ∃ D : Nat, q.den ^ N = D := ⟨_, rfl⟩
      rw [hP, hD] at hk
      obtain ⟨hk1, hk2, hk3⟩ := hk
      have HP := Lib.hid hP
      have HD := Lib.hid hD
      have HT := Lib.hid hk1
      have HBo := Lib.hid hk2
      have HSG := Lib.hid hk3
      clear hP hD hk1 hk2 hk3
      have HN : RowKit.Hid (N ≤ 600) := by show _ ≤ _; omega
      subst hN
      clear hz hq
      have kn : 0 < N := by omega
      have kx : -(N : Int) < (N : Int) := by omega
      clear kz kv
      cases kp : fit64 P with
      | false =>
        have KP := Lib.hid kp
        clear kp
        cases kd : fit64 D with
        | false =>
          have KD := Lib.hid kd
          clear kd
          have hf0 : fitsQ z = false := by rw [fits_of HT.out HBo.out]; simp [KP.out, KD.out]
          rw [limR_no hf0] at hR
          cases hR
          clear hf0
          have b0 := below_new w (.cells #[Value.bool (sg q.num), Value.slice A n c, Value.slice B m d] 27)
          have b1 := below_new (w.alloc (.cells #[Value.bool (sg q.num), Value.slice A n c, Value.slice B m d] 27)) (.cells #[Value.bool false, Value.slice none 0 0, Value.slice none 0 0] 27)
          have HW := Lib.hid (below_two b0 b1)
          have HX := Lib.hid (hx.below HW.out)
          have HY := Lib.hid (hy.below HW.out)
          have r0 := (row3_new w 27 (.bool (sg q.num)) (.slice A n c) (.slice B m d)).below b1
          have rz := row3_new (w.alloc (.cells #[Value.bool (sg q.num), Value.slice A n c, Value.slice B m d] 27)) 27 (.bool false) (.slice none 0 0) (.slice none 0 0)
          simp only [World.size_alloc] at rz
          clear b0 b1 hx hy
          go_enter Try.func25, Try.ntmps25
          go_wp2_with fail
          generalize (w.alloc (.cells #[Value.bool (sg q.num), Value.slice A n c, Value.slice B m d] 27)).alloc (.cells #[Value.bool false, Value.slice none 0 0, Value.slice none 0 0] 27) = w1 at *
          have HR0 := Lib.hid r0
          have HZ := Lib.hid rz
          have Hq : RowKit.Hid (w.heap.size ≤ w.heap.size + 1) := Nat.le_succ _
          clear r0 rz
          refine (pSizeT_c HX.out.nn h1 N HN.out (N : Int) rfl P HP.out false KP.out).mono ?_
          rintro e w2 ⟨A3, n3, c3, rfl, h3, bn⟩
          replace HX := Lib.hid (HX.out.below bn)
          replace HY := Lib.hid (HY.out.below bn)
          replace HR0 := Lib.hid (HR0.out.below bn)
          replace HZ := Lib.hid (HZ.out.below bn)
          replace HW := Lib.hid (below_two HW.out bn)
          clear bn h3
          have c2 := HR0.out.c2
          go_wp2_with fail
          clear c2
          refine (pSizeT_c HY.out h2 N HN.out (N : Int) rfl D HD.out false KD.out).mono ?_
          rintro e w2 ⟨A4, n4, c4, rfl, h4, bn⟩
          replace HX := Lib.hid (HX.out.below bn)
          replace HY := Lib.hid (HY.out.below bn)
          replace HR0 := Lib.hid (HR0.out.below bn)
          replace HZ := Lib.hid (HZ.out.below bn)
          replace HW := Lib.hid (below_two HW.out bn)
          clear bn h4
          have e0 := HZ.out.c0
          have e1 := HZ.out.c1
          have e2 := HZ.out.c2
          have f0 := HZ.out.free 0
          have f1 := HZ.out.free 1
          have f2 := HZ.out.free 2
          have HF := Lib.hid (HZ.out.fill (.bool false) (.slice none 0 0) (.slice none 0 0))
          have HB := Lib.hid (below_fill3' HW.out Hq.out (.bool false) (.slice none 0 0) (.slice none 0 0))
          go_wp2
          refine bodyPost_ret (results_mixed rfl _ _ _ 27 #[.bool false, .slice none 0 0, .slice none 0 0] (0, 0) _ (.int .i64 2) rfl rfl HF.out Try.underlying27 rfl rat_size) rfl ?_
          exact ⟨none, 0, 0, none, 0, 0, rfl, qt_none _ 0 0, HB.out⟩
        | true =>
          have KD := Lib.hid kd
          clear kd
          have hf0 : fitsQ z = false := by rw [fits_of HT.out HBo.out]; simp [KP.out, KD.out]
          rw [limR_no hf0] at hR
          cases hR
          clear hf0
          have b0 := below_new w (.cells #[Value.bool (sg q.num), Value.slice A n c, Value.slice B m d] 27)
          have b1 := below_new (w.alloc (.cells #[Value.bool (sg q.num), Value.slice A n c, Value.slice B m d] 27)) (.cells #[Value.bool false, Value.slice none 0 0, Value.slice none 0 0] 27)
          have HW := Lib.hid (below_two b0 b1)
          have HX := Lib.hid (hx.below HW.out)
          have HY := Lib.hid (hy.below HW.out)
          have r0 := (row3_new w 27 (.bool (sg q.num)) (.slice A n c) (.slice B m d)).below b1
          have rz := row3_new (w.alloc (.cells #[Value.bool (sg q.num), Value.slice A n c, Value.slice B m d] 27)) 27 (.bool false) (.slice none 0 0) (.slice none 0 0)
          simp only [World.size_alloc] at rz
          clear b0 b1 hx hy
          go_enter Try.func25, Try.ntmps25
          go_wp2_with fail
          generalize (w.alloc (.cells #[Value.bool (sg q.num), Value.slice A n c, Value.slice B m d] 27)).alloc (.cells #[Value.bool false, Value.slice none 0 0, Value.slice none 0 0] 27) = w1 at *
          have HR0 := Lib.hid r0
          have HZ := Lib.hid rz
          have Hq : RowKit.Hid (w.heap.size ≤ w.heap.size + 1) := Nat.le_succ _
          clear r0 rz
          refine (pSizeT_c HX.out.nn h1 N HN.out (N : Int) rfl P HP.out false KP.out).mono ?_
          rintro e w2 ⟨A3, n3, c3, rfl, h3, bn⟩
          replace HX := Lib.hid (HX.out.below bn)
          replace HY := Lib.hid (HY.out.below bn)
          replace HR0 := Lib.hid (HR0.out.below bn)
          replace HZ := Lib.hid (HZ.out.below bn)
          replace HW := Lib.hid (below_two HW.out bn)
          clear bn h3
          have c2 := HR0.out.c2
          go_wp2_with fail
          clear c2
          refine (pSizeT_c HY.out h2 N HN.out (N : Int) rfl D HD.out true KD.out).mono ?_
          rintro e w2 ⟨A4, n4, c4, rfl, h4, bn⟩
          have H4 := Lib.hid (h4 rfl)
          replace HX := Lib.hid (HX.out.below bn)
          replace HY := Lib.hid (HY.out.below bn)
          replace HR0 := Lib.hid (HR0.out.below bn)
          replace HZ := Lib.hid (HZ.out.below bn)
          replace HW := Lib.hid (below_two HW.out bn)
          clear bn h4
          have e0 := HZ.out.c0
          have e1 := HZ.out.c1
          have e2 := HZ.out.c2
          have f0 := HZ.out.free 0
          have f1 := HZ.out.free 1
          have f2 := HZ.out.free 2
          have HF := Lib.hid (HZ.out.fill (.bool false) (.slice none 0 0) (.slice none 0 0))
          have HB := Lib.hid (below_fill3' HW.out Hq.out (.bool false) (.slice none 0 0) (.slice none 0 0))
          go_wp2
          refine bodyPost_ret (results_mixed rfl _ _ _ 27 #[.bool false, .slice none 0 0, .slice none 0 0] (0, 0) _ (.int .i64 2) rfl rfl HF.out Try.underlying27 rfl rat_size) rfl ?_
          exact ⟨none, 0, 0, none, 0, 0, rfl, qt_none _ 0 0, HB.out⟩
      | true =>
        have KP := Lib.hid kp
        clear kp
        cases kd : fit64 D with
        | false =>
          have KD := Lib.hid kd
          clear kd
          have hf0 : fitsQ z = false := by rw [fits_of HT.out HBo.out]; simp [KP.out, KD.out]
          rw [limR_no hf0] at hR
          cases hR
          clear hf0
          have b0 := below_new w (.cells #[Value.bool (sg q.num), Value.slice A n c, Value.slice B m d] 27)
          have b1 := below_new (w.alloc (.cells #[Value.bool (sg q.num), Value.slice A n c, Value.slice B m d] 27)) (.cells #[Value.bool false, Value.slice none 0 0, Value.slice none 0 0] 27)
          have HW := Lib.hid (below_two b0 b1)
          have HX := Lib.hid (hx.below HW.out)
          have HY := Lib.hid (hy.below HW.out)
          have r0 := (row3_new w 27 (.bool (sg q.num)) (.slice A n c) (.slice B m d)).below b1
          have rz := row3_new (w.alloc (.cells #[Value.bool (sg q.num), Value.slice A n c, Value.slice B m d] 27)) 27 (.bool false) (.slice none 0 0) (.slice none 0 0)
          simp only [World.size_alloc] at rz
          clear b0 b1 hx hy
          go_enter Try.func25, Try.ntmps25
          go_wp2_with fail
          generalize (w.alloc (.cells #[Value.bool (sg q.num), Value.slice A n c, Value.slice B m d] 27)).alloc (.cells #[Value.bool false, Value.slice none 0 0, Value.slice none 0 0] 27) = w1 at *
          have HR0 := Lib.hid r0
          have HZ := Lib.hid rz
          have Hq : RowKit.Hid (w.heap.size ≤ w.heap.size + 1) := Nat.le_succ _
          clear r0 rz
          refine (pSizeT_c HX.out.nn h1 N HN.out (N : Int) rfl P HP.out true KP.out).mono ?_
          rintro e w2 ⟨A3, n3, c3, rfl, h3, bn⟩
          have H3 := Lib.hid (h3 rfl)
          replace HX := Lib.hid (HX.out.below bn)
          replace HY := Lib.hid (HY.out.below bn)
          replace HR0 := Lib.hid (HR0.out.below bn)
          replace HZ := Lib.hid (HZ.out.below bn)
          replace HW := Lib.hid (below_two HW.out bn)
          clear bn h3
          have c2 := HR0.out.c2
          go_wp2_with fail
          clear c2
          refine (pSizeT_c HY.out h2 N HN.out (N : Int) rfl D HD.out false KD.out).mono ?_
          rintro e w2 ⟨A4, n4, c4, rfl, h4, bn⟩
          replace HX := Lib.hid (HX.out.below bn)
          replace HY := Lib.hid (HY.out.below bn)
          replace HR0 := Lib.hid (HR0.out.below bn)
          replace HZ := Lib.hid (HZ.out.below bn)
          replace H3 := Lib.hid (H3.out.below bn)
          replace HW := Lib.hid (below_two HW.out bn)
          clear bn h4
          have e0 := HZ.out.c0
          have e1 := HZ.out.c1
          have e2 := HZ.out.c2
          have f0 := HZ.out.free 0
          have f1 := HZ.out.free 1
          have f2 := HZ.out.free 2
          have HF := Lib.hid (HZ.out.fill (.bool false) (.slice none 0 0) (.slice none 0 0))
          have HB := Lib.hid (below_fill3' HW.out Hq.out (.bool false) (.slice none 0 0) (.slice none 0 0))
          go_wp2
          refine bodyPost_ret (results_mixed rfl _ _ _ 27 #[.bool false, .slice none 0 0, .slice none 0 0] (0, 0) _ (.int .i64 2) rfl rfl HF.out Try.underlying27 rfl rat_size) rfl ?_
          exact ⟨none, 0, 0, none, 0, 0, rfl, qt_none _ 0 0, HB.out⟩
        | true =>
          have KD := Lib.hid kd
          clear kd
          have hf0 : fitsQ z = true := by rw [fits_of HT.out HBo.out]; simp [KP.out, KD.out]
          rw [limR_yes hf0] at hR
          cases hR
          have Hf := Lib.hid hf0
          clear hf0
          cases ks : sg q.num with
          | false =>
            have b0 := below_new w (.cells #[Value.bool false, Value.slice A n c, Value.slice B m d] 27)
            have b1 := below_new (w.alloc (.cells #[Value.bool false, Value.slice A n c, Value.slice B m d] 27)) (.cells #[Value.bool false, Value.slice none 0 0, Value.slice none 0 0] 27)
            have HW := Lib.hid (below_two b0 b1)
            have HX := Lib.hid (hx.below HW.out)
            have HY := Lib.hid (hy.below HW.out)
            have r0 := (row3_new w 27 (.bool false) (.slice A n c) (.slice B m d)).below b1
            have rz := row3_new (w.alloc (.cells #[Value.bool false, Value.slice A n c, Value.slice B m d] 27)) 27 (.bool false) (.slice none 0 0) (.slice none 0 0)
            simp only [World.size_alloc] at rz
            clear b0 b1 hx hy
            go_enter Try.func25, Try.ntmps25
            go_wp2_with fail
            generalize (w.alloc (.cells #[Value.bool false, Value.slice A n c, Value.slice B m d] 27)).alloc (.cells #[Value.bool false, Value.slice none 0 0, Value.slice none 0 0] 27) = w1 at *
            have HR0 := Lib.hid r0
            have HZ := Lib.hid rz
            have Hq : RowKit.Hid (w.heap.size ≤ w.heap.size + 1) := Nat.le_succ _
            clear r0 rz
            refine (pSizeT_c HX.out.nn h1 N HN.out (N : Int) rfl P HP.out true KP.out).mono ?_
            rintro e w2 ⟨A3, n3, c3, rfl, h3, bn⟩
            have H3 := Lib.hid (h3 rfl)
            replace HX := Lib.hid (HX.out.below bn)
            replace HY := Lib.hid (HY.out.below bn)
            replace HR0 := Lib.hid (HR0.out.below bn)
            replace HZ := Lib.hid (HZ.out.below bn)
            replace HW := Lib.hid (below_two HW.out bn)
            clear bn h3
            have c2 := HR0.out.c2
            go_wp2_with fail
            clear c2
            refine (pSizeT_c HY.out h2 N HN.out (N : Int) rfl D HD.out true KD.out).mono ?_
            rintro e w2 ⟨A4, n4, c4, rfl, h4, bn⟩
            have H4 := Lib.hid (h4 rfl)
            replace HX := Lib.hid (HX.out.below bn)
            replace HY := Lib.hid (HY.out.below bn)
            replace HR0 := Lib.hid (HR0.out.below bn)
            replace HZ := Lib.hid (HZ.out.below bn)
            replace H3 := Lib.hid (H3.out.below bn)
            replace HW := Lib.hid (below_two HW.out bn)
            clear bn h4
            have HB1 : RowKit.Hid (sg z.num = false) := by show _ = _; rw [HSG.out, ks]; rfl
            have Z5 : RowKit.Hid (ZZ w2 (sg z.num) A3 n3 c3 (limbs z.num.natAbs) z.num 64) := by
              have h := ZZ.of (s := sg z.num) H3.out
              rw [← HT.out, zz_sg] at h
              exact h
            have Z6 : RowKit.Hid (NN w2 A4 n4 c4 (limbs z.den) z.den 64) := by
              have h := H4.out
              rw [← HBo.out] at h
              exact h
            clear H3 H4
            have c0 := HR0.out.c0
            have e0 := HZ.out.c0
            have e1 := HZ.out.c1
            have e2 := HZ.out.c2
            have f0 := HZ.out.free 0
            have f1 := HZ.out.free 1
            have f2 := HZ.out.free 2
            have hNo := HZ.out.noLimb (by intro v e; cases e) (by intro v e; cases e) (by intro v e; cases e)
            have HF := Lib.hid (HZ.out.fill (.bool (sg z.num)) (.slice A3 n3 c3) (.slice A4 n4 c4))
            have HPn := Lib.hid ((qt_some Z5.out Z6.out Hf.out).fillR3 hNo (.bool (sg z.num)) (.slice A3 n3 c3) (.slice A4 n4 c4))
            have HB := Lib.hid (below_fill3' HW.out Hq.out (.bool (sg z.num)) (.slice A3 n3 c3) (.slice A4 n4 c4))
            rw [HB1.out] at HF HPn HB
            clear hNo
            go_wp2
            refine bodyPost_ret (results_mixed rfl _ _ _ 27 #[.bool false, .slice A3 n3 c3, .slice A4 n4 c4] (0, 0) _ (.int .i64 0) rfl rfl HF.out Try.underlying27 rfl rat_size) rfl ?_
            exact ⟨A3, n3, c3, A4, n4, c4, by rw [← HB1.out]; rfl, HPn.out, HB.out⟩
          | true =>
            by_cases hodd : N % 2 = 1
            · have b0 := below_new w (.cells #[Value.bool true, Value.slice A n c, Value.slice B m d] 27)
              have b1 := below_new (w.alloc (.cells #[Value.bool true, Value.slice A n c, Value.slice B m d] 27)) (.cells #[Value.bool false, Value.slice none 0 0, Value.slice none 0 0] 27)
              have HW := Lib.hid (below_two b0 b1)
              have HX := Lib.hid (hx.below HW.out)
              have HY := Lib.hid (hy.below HW.out)
              have r0 := (row3_new w 27 (.bool true) (.slice A n c) (.slice B m d)).below b1
              have rz := row3_new (w.alloc (.cells #[Value.bool true, Value.slice A n c, Value.slice B m d] 27)) 27 (.bool false) (.slice none 0 0) (.slice none 0 0)
              simp only [World.size_alloc] at rz
              clear b0 b1 hx hy
              go_enter Try.func25, Try.ntmps25
              go_wp2_with fail
              generalize (w.alloc (.cells #[Value.bool true, Value.slice A n c, Value.slice B m d] 27)).alloc (.cells #[Value.bool false, Value.slice none 0 0, Value.slice none 0 0] 27) = w1 at *
              have HR0 := Lib.hid r0
              have HZ := Lib.hid rz
              have Hq : RowKit.Hid (w.heap.size ≤ w.heap.size + 1) := Nat.le_succ _
              clear r0 rz
              refine (pSizeT_c HX.out.nn h1 N HN.out (N : Int) rfl P HP.out true KP.out).mono ?_
              rintro e w2 ⟨A3, n3, c3, rfl, h3, bn⟩
              have H3 := Lib.hid (h3 rfl)
              replace HX := Lib.hid (HX.out.below bn)
              replace HY := Lib.hid (HY.out.below bn)
              replace HR0 := Lib.hid (HR0.out.below bn)
              replace HZ := Lib.hid (HZ.out.below bn)
              replace HW := Lib.hid (below_two HW.out bn)
              clear bn h3
              have c2 := HR0.out.c2
              go_wp2_with fail
              clear c2
              refine (pSizeT_c HY.out h2 N HN.out (N : Int) rfl D HD.out true KD.out).mono ?_
              rintro e w2 ⟨A4, n4, c4, rfl, h4, bn⟩
              have H4 := Lib.hid (h4 rfl)
              replace HX := Lib.hid (HX.out.below bn)
              replace HY := Lib.hid (HY.out.below bn)
              replace HR0 := Lib.hid (HR0.out.below bn)
              replace HZ := Lib.hid (HZ.out.below bn)
              replace H3 := Lib.hid (H3.out.below bn)
              replace HW := Lib.hid (below_two HW.out bn)
              clear bn h4
              have HB1 : RowKit.Hid (sg z.num = true) := by show _ = _; rw [HSG.out, ks]; rw [decide_eq_true hodd]; rfl
              have hr1 : (((N : Int) % 2) != 0) = true := by rw [bne_iff_ne]; omega
              have Z5 : RowKit.Hid (ZZ w2 (sg z.num) A3 n3 c3 (limbs z.num.natAbs) z.num 64) := by
                have h := ZZ.of (s := sg z.num) H3.out
                rw [← HT.out, zz_sg] at h
                exact h
              have Z6 : RowKit.Hid (NN w2 A4 n4 c4 (limbs z.den) z.den 64) := by
                have h := H4.out
                rw [← HBo.out] at h
                exact h
              clear H3 H4
              have c0 := HR0.out.c0
              have e0 := HZ.out.c0
              have e1 := HZ.out.c1
              have e2 := HZ.out.c2
              have f0 := HZ.out.free 0
              have f1 := HZ.out.free 1
              have f2 := HZ.out.free 2
              have hNo := HZ.out.noLimb (by intro v e; cases e) (by intro v e; cases e) (by intro v e; cases e)
              have HF := Lib.hid (HZ.out.fill (.bool (sg z.num)) (.slice A3 n3 c3) (.slice A4 n4 c4))
              have HPn := Lib.hid ((qt_some Z5.out Z6.out Hf.out).fillR3 hNo (.bool (sg z.num)) (.slice A3 n3 c3) (.slice A4 n4 c4))
              have HB := Lib.hid (below_fill3' HW.out Hq.out (.bool (sg z.num)) (.slice A3 n3 c3) (.slice A4 n4 c4))
              rw [HB1.out] at HF HPn HB
              clear hNo
              go_wp2
              refine bodyPost_ret (results_mixed rfl _ _ _ 27 #[.bool true, .slice A3 n3 c3, .slice A4 n4 c4] (0, 0) _ (.int .i64 0) rfl rfl HF.out Try.underlying27 rfl rat_size) rfl ?_
              exact ⟨A3, n3, c3, A4, n4, c4, by rw [← HB1.out]; rfl, HPn.out, HB.out⟩
            · have b0 := below_new w (.cells #[Value.bool true, Value.slice A n c, Value.slice B m d] 27)
              have b1 := below_new (w.alloc (.cells #[Value.bool true, Value.slice A n c, Value.slice B m d] 27)) (.cells #[Value.bool false, Value.slice none 0 0, Value.slice none 0 0] 27)
              have HW := Lib.hid (below_two b0 b1)
              have HX := Lib.hid (hx.below HW.out)
              have HY := Lib.hid (hy.below HW.out)
              have r0 := (row3_new w 27 (.bool true) (.slice A n c) (.slice B m d)).below b1
              have rz := row3_new (w.alloc (.cells #[Value.bool true, Value.slice A n c, Value.slice B m d] 27)) 27 (.bool false) (.slice none 0 0) (.slice none 0 0)
              simp only [World.size_alloc] at rz
              clear b0 b1 hx hy
              go_enter Try.func25, Try.ntmps25
              go_wp2_with fail
              generalize (w.alloc (.cells #[Value.bool true, Value.slice A n c, Value.slice B m d] 27)).alloc (.cells #[Value.bool false, Value.slice none 0 0, Value.slice none 0 0] 27) = w1 at *
              have HR0 := Lib.hid r0
              have HZ := Lib.hid rz
              have Hq : RowKit.Hid (w.heap.size ≤ w.heap.size + 1) := Nat.le_succ _
              clear r0 rz
              refine (pSizeT_c HX.out.nn h1 N HN.out (N : Int) rfl P HP.out true KP.out).mono ?_
              rintro e w2 ⟨A3, n3, c3, rfl, h3, bn⟩
              have H3 := Lib.hid (h3 rfl)
              replace HX := Lib.hid (HX.out.below bn)
              replace HY := Lib.hid (HY.out.below bn)
              replace HR0 := Lib.hid (HR0.out.below bn)
              replace HZ := Lib.hid (HZ.out.below bn)
              replace HW := Lib.hid (below_two HW.out bn)
              clear bn h3
              have c2 := HR0.out.c2
              go_wp2_with fail
              clear c2
              refine (pSizeT_c HY.out h2 N HN.out (N : Int) rfl D HD.out true KD.out).mono ?_
              rintro e w2 ⟨A4, n4, c4, rfl, h4, bn⟩
              have H4 := Lib.hid (h4 rfl)
              replace HX := Lib.hid (HX.out.below bn)
              replace HY := Lib.hid (HY.out.below bn)
              replace HR0 := Lib.hid (HR0.out.below bn)
              replace HZ := Lib.hid (HZ.out.below bn)
              replace H3 := Lib.hid (H3.out.below bn)
              replace HW := Lib.hid (below_two HW.out bn)
              clear bn h4
              have HB1 : RowKit.Hid (sg z.num = false) := by show _ = _; rw [HSG.out, ks]; rw [decide_eq_false hodd]; rfl
              have hr1 : (((N : Int) % 2) != 0) = false := by rw [bne_eq_false_iff_eq]; omega
              have Z5 : RowKit.Hid (ZZ w2 (sg z.num) A3 n3 c3 (limbs z.num.natAbs) z.num 64) := by
                have h := ZZ.of (s := sg z.num) H3.out
                rw [← HT.out, zz_sg] at h
                exact h
              have Z6 : RowKit.Hid (NN w2 A4 n4 c4 (limbs z.den) z.den 64) := by
                have h := H4.out
                rw [← HBo.out] at h
                exact h
              clear H3 H4
              have c0 := HR0.out.c0
              have e0 := HZ.out.c0
              have e1 := HZ.out.c1
              have e2 := HZ.out.c2
              have f0 := HZ.out.free 0
              have f1 := HZ.out.free 1
              have f2 := HZ.out.free 2
              have hNo := HZ.out.noLimb (by intro v e; cases e) (by intro v e; cases e) (by intro v e; cases e)
              have HF := Lib.hid (HZ.out.fill (.bool (sg z.num)) (.slice A3 n3 c3) (.slice A4 n4 c4))
              have HPn := Lib.hid ((qt_some Z5.out Z6.out Hf.out).fillR3 hNo (.bool (sg z.num)) (.slice A3 n3 c3) (.slice A4 n4 c4))
              have HB := Lib.hid (below_fill3' HW.out Hq.out (.bool (sg z.num)) (.slice A3 n3 c3) (.slice A4 n4 c4))
              rw [HB1.out] at HF HPn HB
              clear hNo
              go_wp2
              refine bodyPost_ret (results_mixed rfl _ _ _ 27 #[.bool false, .slice A3 n3 c3, .slice A4 n4 c4] (0, 0) _ (.int .i64 0) rfl rfl HF.out Try.underlying27 rfl rat_size) rfl ?_
              exact ⟨A3, n3, c3, A4, n4, c4, by rw [← HB1.out]; rfl, HPn.out, HB.out⟩
    · obtain ⟨N, hN⟩ : ∃ N : Nat, v = -(N : Int) := ⟨(-v).toNat, by omega⟩
      have hk := pow_down (show q.num ≠ 0 by omega) N
      rw [← hN, hz] at hk
      obtain ⟨P, hP⟩ : ∃ P : Nat, q.num.natAbs ^ N = P := ⟨_, rfl⟩
      obtain ⟨D, hD⟩ : ∃ D : Nat, q.den ^ N = D := ⟨_, rfl⟩
      rw [hP, hD] at hk
      obtain ⟨hk1, hk2, hk3⟩ := hk
      have HP := Lib.hid hP
      have HD := Lib.hid hD
      have HT := Lib.hid hk1
      have HBo := Lib.hid hk2
      have HSG := Lib.hid hk3
      clear hP hD hk1 hk2 hk3
      have HN : RowKit.Hid (N ≤ 600) := by show _ ≤ _; omega
      have hN0 : 0 < N := by omega
      subst hN
      clear hz hq
      have kx : -(N : Int) < (N : Int) := by omega
      clear kz kv
      cases kp : fit64 P with
      | false =>
        have KP := Lib.hid kp
        clear kp
        cases kd : fit64 D with
        | false =>
          have KD := Lib.hid kd
          clear kd
          have hf0 : fitsQ z = false := by rw [fits_of HT.out HBo.out]; simp [KP.out, KD.out]
          rw [limR_no hf0] at hR
          cases hR
          clear hf0
          have b0 := below_new w (.cells #[Value.bool (sg q.num), Value.slice A n c, Value.slice B m d] 27)
          have b1 := below_new (w.alloc (.cells #[Value.bool (sg q.num), Value.slice A n c, Value.slice B m d] 27)) (.cells #[Value.bool false, Value.slice none 0 0, Value.slice none 0 0] 27)
          have HW := Lib.hid (below_two b0 b1)
          have HX := Lib.hid (hx.below HW.out)
          have HY := Lib.hid (hy.below HW.out)
          have r0 := (row3_new w 27 (.bool (sg q.num)) (.slice A n c) (.slice B m d)).below b1
          have rz := row3_new (w.alloc (.cells #[Value.bool (sg q.num), Value.slice A n c, Value.slice B m d] 27)) 27 (.bool false) (.slice none 0 0) (.slice none 0 0)
          simp only [World.size_alloc] at rz
          clear b0 b1 hx hy
          go_enter Try.func25, Try.ntmps25
          go_wp2_with fail
          generalize (w.alloc (.cells #[Value.bool (sg q.num), Value.slice A n c, Value.slice B m d] 27)).alloc (.cells #[Value.bool false, Value.slice none 0 0, Value.slice none 0 0] 27) = w1 at *
          have HR0 := Lib.hid r0
          have HZ := Lib.hid rz
          have Hq : RowKit.Hid (w.heap.size ≤ w.heap.size + 1) := Nat.le_succ _
          clear r0 rz
          refine (pSizeT_c HX.out.nn h1 N HN.out (N : Int) rfl P HP.out false KP.out).mono ?_
          rintro e w2 ⟨A3, n3, c3, rfl, h3, bn⟩
          replace HX := Lib.hid (HX.out.below bn)
          replace HY := Lib.hid (HY.out.below bn)
          replace HR0 := Lib.hid (HR0.out.below bn)
          replace HZ := Lib.hid (HZ.out.below bn)
          replace HW := Lib.hid (below_two HW.out bn)
          clear bn h3
          have c2 := HR0.out.c2
          go_wp2_with fail
          clear c2
          refine (pSizeT_c HY.out h2 N HN.out (N : Int) rfl D HD.out false KD.out).mono ?_
          rintro e w2 ⟨A4, n4, c4, rfl, h4, bn⟩
          replace HX := Lib.hid (HX.out.below bn)
          replace HY := Lib.hid (HY.out.below bn)
          replace HR0 := Lib.hid (HR0.out.below bn)
          replace HZ := Lib.hid (HZ.out.below bn)
          replace HW := Lib.hid (below_two HW.out bn)
          clear bn h4
          have e0 := HZ.out.c0
          have e1 := HZ.out.c1
          have e2 := HZ.out.c2
          have f0 := HZ.out.free 0
          have f1 := HZ.out.free 1
          have f2 := HZ.out.free 2
          have HF := Lib.hid (HZ.out.fill (.bool false) (.slice none 0 0) (.slice none 0 0))
          have HB := Lib.hid (below_fill3' HW.out Hq.out (.bool false) (.slice none 0 0) (.slice none 0 0))
          go_wp2
          refine bodyPost_ret (results_mixed rfl _ _ _ 27 #[.bool false, .slice none 0 0, .slice none 0 0] (0, 0) _ (.int .i64 2) rfl rfl HF.out Try.underlying27 rfl rat_size) rfl ?_
          exact ⟨none, 0, 0, none, 0, 0, rfl, qt_none _ 0 0, HB.out⟩
        | true =>
          have KD := Lib.hid kd
          clear kd
          have hf0 : fitsQ z = false := by rw [fits_of HT.out HBo.out]; simp [KP.out, KD.out]
          rw [limR_no hf0] at hR
          cases hR
          clear hf0
          have b0 := below_new w (.cells #[Value.bool (sg q.num), Value.slice A n c, Value.slice B m d] 27)
          have b1 := below_new (w.alloc (.cells #[Value.bool (sg q.num), Value.slice A n c, Value.slice B m d] 27)) (.cells #[Value.bool false, Value.slice none 0 0, Value.slice none 0 0] 27)
          have HW := Lib.hid (below_two b0 b1)
          have HX := Lib.hid (hx.below HW.out)
          have HY := Lib.hid (hy.below HW.out)
          have r0 := (row3_new w 27 (.bool (sg q.num)) (.slice A n c) (.slice B m d)).below b1
          have rz := row3_new (w.alloc (.cells #[Value.bool (sg q.num), Value.slice A n c, Value.slice B m d] 27)) 27 (.bool false) (.slice none 0 0) (.slice none 0 0)
          simp only [World.size_alloc] at rz
          clear b0 b1 hx hy
          go_enter Try.func25, Try.ntmps25
          go_wp2_with fail
          generalize (w.alloc (.cells #[Value.bool (sg q.num), Value.slice A n c, Value.slice B m d] 27)).alloc (.cells #[Value.bool false, Value.slice none 0 0, Value.slice none 0 0] 27) = w1 at *
          have HR0 := Lib.hid r0
          have HZ := Lib.hid rz
          have Hq : RowKit.Hid (w.heap.size ≤ w.heap.size + 1) := Nat.le_succ _
          clear r0 rz
          refine (pSizeT_c HX.out.nn h1 N HN.out (N : Int) rfl P HP.out false KP.out).mono ?_
          rintro e w2 ⟨A3, n3, c3, rfl, h3, bn⟩
          replace HX := Lib.hid (HX.out.below bn)
          replace HY := Lib.hid (HY.out.below bn)
          replace HR0 := Lib.hid (HR0.out.below bn)
          replace HZ := Lib.hid (HZ.out.below bn)
          replace HW := Lib.hid (below_two HW.out bn)
          clear bn h3
          have c2 := HR0.out.c2
          go_wp2_with fail
          clear c2
          refine (pSizeT_c HY.out h2 N HN.out (N : Int) rfl D HD.out true KD.out).mono ?_
          rintro e w2 ⟨A4, n4, c4, rfl, h4, bn⟩
          have H4 := Lib.hid (h4 rfl)
          replace HX := Lib.hid (HX.out.below bn)
          replace HY := Lib.hid (HY.out.below bn)
          replace HR0 := Lib.hid (HR0.out.below bn)
          replace HZ := Lib.hid (HZ.out.below bn)
          replace HW := Lib.hid (below_two HW.out bn)
          clear bn h4
          have e0 := HZ.out.c0
          have e1 := HZ.out.c1
          have e2 := HZ.out.c2
          have f0 := HZ.out.free 0
          have f1 := HZ.out.free 1
          have f2 := HZ.out.free 2
          have HF := Lib.hid (HZ.out.fill (.bool false) (.slice none 0 0) (.slice none 0 0))
          have HB := Lib.hid (below_fill3' HW.out Hq.out (.bool false) (.slice none 0 0) (.slice none 0 0))
          go_wp2
          refine bodyPost_ret (results_mixed rfl _ _ _ 27 #[.bool false, .slice none 0 0, .slice none 0 0] (0, 0) _ (.int .i64 2) rfl rfl HF.out Try.underlying27 rfl rat_size) rfl ?_
          exact ⟨none, 0, 0, none, 0, 0, rfl, qt_none _ 0 0, HB.out⟩
      | true =>
        have KP := Lib.hid kp
        clear kp
        cases kd : fit64 D with
        | false =>
          have KD := Lib.hid kd
          clear kd
          have hf0 : fitsQ z = false := by rw [fits_of HT.out HBo.out]; simp [KP.out, KD.out]
          rw [limR_no hf0] at hR
          cases hR
          clear hf0
          have b0 := below_new w (.cells #[Value.bool (sg q.num), Value.slice A n c, Value.slice B m d] 27)
          have b1 := below_new (w.alloc (.cells #[Value.bool (sg q.num), Value.slice A n c, Value.slice B m d] 27)) (.cells #[Value.bool false, Value.slice none 0 0, Value.slice none 0 0] 27)
          have HW := Lib.hid (below_two b0 b1)
          have HX := Lib.hid (hx.below HW.out)
          have HY := Lib.hid (hy.below HW.out)
          have r0 := (row3_new w 27 (.bool (sg q.num)) (.slice A n c) (.slice B m d)).below b1
          have rz := row3_new (w.alloc (.cells #[Value.bool (sg q.num), Value.slice A n c, Value.slice B m d] 27)) 27 (.bool false) (.slice none 0 0) (.slice none 0 0)
          simp only [World.size_alloc] at rz
          clear b0 b1 hx hy
          go_enter Try.func25, Try.ntmps25
          go_wp2_with fail
          generalize (w.alloc (.cells #[Value.bool (sg q.num), Value.slice A n c, Value.slice B m d] 27)).alloc (.cells #[Value.bool false, Value.slice none 0 0, Value.slice none 0 0] 27) = w1 at *
          have HR0 := Lib.hid r0
          have HZ := Lib.hid rz
          have Hq : RowKit.Hid (w.heap.size ≤ w.heap.size + 1) := Nat.le_succ _
          clear r0 rz
          refine (pSizeT_c HX.out.nn h1 N HN.out (N : Int) rfl P HP.out true KP.out).mono ?_
          rintro e w2 ⟨A3, n3, c3, rfl, h3, bn⟩
          have H3 := Lib.hid (h3 rfl)
          replace HX := Lib.hid (HX.out.below bn)
          replace HY := Lib.hid (HY.out.below bn)
          replace HR0 := Lib.hid (HR0.out.below bn)
          replace HZ := Lib.hid (HZ.out.below bn)
          replace HW := Lib.hid (below_two HW.out bn)
          clear bn h3
          have c2 := HR0.out.c2
          go_wp2_with fail
          clear c2
          refine (pSizeT_c HY.out h2 N HN.out (N : Int) rfl D HD.out false KD.out).mono ?_
          rintro e w2 ⟨A4, n4, c4, rfl, h4, bn⟩
          replace HX := Lib.hid (HX.out.below bn)
          replace HY := Lib.hid (HY.out.below bn)
          replace HR0 := Lib.hid (HR0.out.below bn)
          replace HZ := Lib.hid (HZ.out.below bn)
          replace H3 := Lib.hid (H3.out.below bn)
          replace HW := Lib.hid (below_two HW.out bn)
          clear bn h4
          have e0 := HZ.out.c0
          have e1 := HZ.out.c1
          have e2 := HZ.out.c2
          have f0 := HZ.out.free 0
          have f1 := HZ.out.free 1
          have f2 := HZ.out.free 2
          have HF := Lib.hid (HZ.out.fill (.bool false) (.slice none 0 0) (.slice none 0 0))
          have HB := Lib.hid (below_fill3' HW.out Hq.out (.bool false) (.slice none 0 0) (.slice none 0 0))
          go_wp2
          refine bodyPost_ret (results_mixed rfl _ _ _ 27 #[.bool false, .slice none 0 0, .slice none 0 0] (0, 0) _ (.int .i64 2) rfl rfl HF.out Try.underlying27 rfl rat_size) rfl ?_
          exact ⟨none, 0, 0, none, 0, 0, rfl, qt_none _ 0 0, HB.out⟩
        | true =>
          have KD := Lib.hid kd
          clear kd
          have hf0 : fitsQ z = true := by rw [fits_of HT.out HBo.out]; simp [KP.out, KD.out]
          rw [limR_yes hf0] at hR
          cases hR
          have Hf := Lib.hid hf0
          clear hf0
          cases ks : sg q.num with
          | false =>
            have b0 := below_new w (.cells #[Value.bool false, Value.slice A n c, Value.slice B m d] 27)
            have b1 := below_new (w.alloc (.cells #[Value.bool false, Value.slice A n c, Value.slice B m d] 27)) (.cells #[Value.bool false, Value.slice none 0 0, Value.slice none 0 0] 27)
            have HW := Lib.hid (below_two b0 b1)
            have HX := Lib.hid (hx.below HW.out)
            have HY := Lib.hid (hy.below HW.out)
            have r0 := (row3_new w 27 (.bool false) (.slice A n c) (.slice B m d)).below b1
            have rz := row3_new (w.alloc (.cells #[Value.bool false, Value.slice A n c, Value.slice B m d] 27)) 27 (.bool false) (.slice none 0 0) (.slice none 0 0)
            simp only [World.size_alloc] at rz
            clear b0 b1 hx hy
            go_enter Try.func25, Try.ntmps25
            go_wp2_with fail
            generalize (w.alloc (.cells #[Value.bool false, Value.slice A n c, Value.slice B m d] 27)).alloc (.cells #[Value.bool false, Value.slice none 0 0, Value.slice none 0 0] 27) = w1 at *
            have HR0 := Lib.hid r0
            have HZ := Lib.hid rz
            have Hq : RowKit.Hid (w.heap.size ≤ w.heap.size + 1) := Nat.le_succ _
            clear r0 rz
            refine (pSizeT_c HX.out.nn h1 N HN.out (N : Int) rfl P HP.out true KP.out).mono ?_
            rintro e w2 ⟨A3, n3, c3, rfl, h3, bn⟩
            have H3 := Lib.hid (h3 rfl)
            replace HX := Lib.hid (HX.out.below bn)
            replace HY := Lib.hid (HY.out.below bn)
            replace HR0 := Lib.hid (HR0.out.below bn)
            replace HZ := Lib.hid (HZ.out.below bn)
            replace HW := Lib.hid (below_two HW.out bn)
            clear bn h3
            have c2 := HR0.out.c2
            go_wp2_with fail
            clear c2
            refine (pSizeT_c HY.out h2 N HN.out (N : Int) rfl D HD.out true KD.out).mono ?_
            rintro e w2 ⟨A4, n4, c4, rfl, h4, bn⟩
            have H4 := Lib.hid (h4 rfl)
            replace HX := Lib.hid (HX.out.below bn)
            replace HY := Lib.hid (HY.out.below bn)
            replace HR0 := Lib.hid (HR0.out.below bn)
            replace HZ := Lib.hid (HZ.out.below bn)
            replace H3 := Lib.hid (H3.out.below bn)
            replace HW := Lib.hid (below_two HW.out bn)
            clear bn h4
            have HB1 : RowKit.Hid (sg z.num = false) := by show _ = _; rw [HSG.out, ks]; rfl
            have Z5 : RowKit.Hid (ZZ w2 (sg z.num) A4 n4 c4 (limbs z.num.natAbs) z.num 64) := by
              have h := ZZ.of (s := sg z.num) H4.out
              rw [← HT.out, zz_sg] at h
              exact h
            have Z6 : RowKit.Hid (NN w2 A3 n3 c3 (limbs z.den) z.den 64) := by
              have h := H3.out
              rw [← HBo.out] at h
              exact h
            clear H3 H4
            have c0 := HR0.out.c0
            have e0 := HZ.out.c0
            have e1 := HZ.out.c1
            have e2 := HZ.out.c2
            have f0 := HZ.out.free 0
            have f1 := HZ.out.free 1
            have f2 := HZ.out.free 2
            have hNo := HZ.out.noLimb (by intro v e; cases e) (by intro v e; cases e) (by intro v e; cases e)
            have HF := Lib.hid (HZ.out.fill (.bool (sg z.num)) (.slice A4 n4 c4) (.slice A3 n3 c3))
            have HPn := Lib.hid ((qt_some Z5.out Z6.out Hf.out).fillR3 hNo (.bool (sg z.num)) (.slice A4 n4 c4) (.slice A3 n3 c3))
            have HB := Lib.hid (below_fill3' HW.out Hq.out (.bool (sg z.num)) (.slice A4 n4 c4) (.slice A3 n3 c3))
            rw [HB1.out] at HF HPn HB
            clear hNo
            go_wp2
            refine bodyPost_ret (results_mixed rfl _ _ _ 27 #[.bool false, .slice A4 n4 c4, .slice A3 n3 c3] (0, 0) _ (.int .i64 0) rfl rfl HF.out Try.underlying27 rfl rat_size) rfl ?_
            exact ⟨A4, n4, c4, A3, n3, c3, by rw [← HB1.out]; rfl, HPn.out, HB.out⟩
          | true =>
            by_cases hodd : N % 2 = 1
            · have b0 := below_new w (.cells #[Value.bool true, Value.slice A n c, Value.slice B m d] 27)
              have b1 := below_new (w.alloc (.cells #[Value.bool true, Value.slice A n c, Value.slice B m d] 27)) (.cells #[Value.bool false, Value.slice none 0 0, Value.slice none 0 0] 27)
              have HW := Lib.hid (below_two b0 b1)
              have HX := Lib.hid (hx.below HW.out)
              have HY := Lib.hid (hy.below HW.out)
              have r0 := (row3_new w 27 (.bool true) (.slice A n c) (.slice B m d)).below b1
              have rz := row3_new (w.alloc (.cells #[Value.bool true, Value.slice A n c, Value.slice B m d] 27)) 27 (.bool false) (.slice none 0 0) (.slice none 0 0)
              simp only [World.size_alloc] at rz
              clear b0 b1 hx hy
              go_enter Try.func25, Try.ntmps25
              go_wp2_with fail
              generalize (w.alloc (.cells #[Value.bool true, Value.slice A n c, Value.slice B m d] 27)).alloc (.cells #[Value.bool false, Value.slice none 0 0, Value.slice none 0 0] 27) = w1 at *
              have HR0 := Lib.hid r0
              have HZ := Lib.hid rz
              have Hq : RowKit.Hid (w.heap.size ≤ w.heap.size + 1) := Nat.le_succ _
              clear r0 rz
              refine (pSizeT_c HX.out.nn h1 N HN.out (N : Int) rfl P HP.out true KP.out).mono ?_
              rintro e w2 ⟨A3, n3, c3, rfl, h3, bn⟩
              have H3 := Lib.hid (h3 rfl)
              replace HX := Lib.hid (HX.out.below bn)
              replace HY := Lib.hid (HY.out.below bn)
              replace HR0 := Lib.hid (HR0.out.below bn)
              replace HZ := Lib.hid (HZ.out.below bn)
              replace HW := Lib.hid (below_two HW.out bn)
              clear bn h3
              have c2 := HR0.out.c2
              go_wp2_with fail
              clear c2
              refine (pSizeT_c HY.out h2 N HN.out (N : Int) rfl D HD.out true KD.out).mono ?_
              rintro e w2 ⟨A4, n4, c4, rfl, h4, bn⟩
              have H4 := Lib.hid (h4 rfl)
              replace HX := Lib.hid (HX.out.below bn)
              replace HY := Lib.hid (HY.out.below bn)
              replace HR0 := Lib.hid (HR0.out.below bn)
              replace HZ := Lib.hid (HZ.out.below bn)
              replace H3 := Lib.hid (H3.out.below bn)
              replace HW := Lib.hid (below_two HW.out bn)
              clear bn h4
              have HB1 : RowKit.Hid (sg z.num = true) := by show _ = _; rw [HSG.out, ks]; rw [decide_eq_true hodd]; rfl
              have hr1 : ((-((N : Int) % 2)) != 0) = true := by rw [bne_iff_ne]; omega
              have Z5 : RowKit.Hid (ZZ w2 (sg z.num) A4 n4 c4 (limbs z.num.natAbs) z.num 64) := by
                have h := ZZ.of (s := sg z.num) H4.out
                rw [← HT.out, zz_sg] at h
                exact h
              have Z6 : RowKit.Hid (NN w2 A3 n3 c3 (limbs z.den) z.den 64) := by
                have h := H3.out
                rw [← HBo.out] at h
                exact h
              clear H3 H4
              have c0 := HR0.out.c0
              have e0 := HZ.out.c0
              have e1 := HZ.out.c1
              have e2 := HZ.out.c2
              have f0 := HZ.out.free 0
              have f1 := HZ.out.free 1
              have f2 := HZ.out.free 2
              have hNo := HZ.out.noLimb (by intro v e; cases e) (by intro v e; cases e) (by intro v e; cases e)
              have HF := Lib.hid (HZ.out.fill (.bool (sg z.num)) (.slice A4 n4 c4) (.slice A3 n3 c3))
              have HPn := Lib.hid ((qt_some Z5.out Z6.out Hf.out).fillR3 hNo (.bool (sg z.num)) (.slice A4 n4 c4) (.slice A3 n3 c3))
              have HB := Lib.hid (below_fill3' HW.out Hq.out (.bool (sg z.num)) (.slice A4 n4 c4) (.slice A3 n3 c3))
              rw [HB1.out] at HF HPn HB
              clear hNo
              go_wp2
              refine bodyPost_ret (results_mixed rfl _ _ _ 27 #[.bool true, .slice A4 n4 c4, .slice A3 n3 c3] (0, 0) _ (.int .i64 0) rfl rfl HF.out Try.underlying27 rfl rat_size) rfl ?_
              exact ⟨A4, n4, c4, A3, n3, c3, by rw [← HB1.out]; rfl, HPn.out, HB.out⟩
            · have b0 := below_new w (.cells #[Value.bool true, Value.slice A n c, Value.slice B m d] 27)
              have b1 := below_new (w.alloc (.cells #[Value.bool true, Value.slice A n c, Value.slice B m d] 27)) (.cells #[Value.bool false, Value.slice none 0 0, Value.slice none 0 0] 27)
              have HW := Lib.hid (below_two b0 b1)
              have HX := Lib.hid (hx.below HW.out)
              have HY := Lib.hid (hy.below HW.out)
              have r0 := (row3_new w 27 (.bool true) (.slice A n c) (.slice B m d)).below b1
              have rz := row3_new (w.alloc (.cells #[Value.bool true, Value.slice A n c, Value.slice B m d] 27)) 27 (.bool false) (.slice none 0 0) (.slice none 0 0)
              simp only [World.size_alloc] at rz
              clear b0 b1 hx hy
              go_enter Try.func25, Try.ntmps25
              go_wp2_with fail
              generalize (w.alloc (.cells #[Value.bool true, Value.slice A n c, Value.slice B m d] 27)).alloc (.cells #[Value.bool false, Value.slice none 0 0, Value.slice none 0 0] 27) = w1 at *
              have HR0 := Lib.hid r0
              have HZ := Lib.hid rz
              have Hq : RowKit.Hid (w.heap.size ≤ w.heap.size + 1) := Nat.le_succ _
              clear r0 rz
              refine (pSizeT_c HX.out.nn h1 N HN.out (N : Int) rfl P HP.out true KP.out).mono ?_
              rintro e w2 ⟨A3, n3, c3, rfl, h3, bn⟩
              have H3 := Lib.hid (h3 rfl)
              replace HX := Lib.hid (HX.out.below bn)
              replace HY := Lib.hid (HY.out.below bn)
              replace HR0 := Lib.hid (HR0.out.below bn)
              replace HZ := Lib.hid (HZ.out.below bn)
              replace HW := Lib.hid (below_two HW.out bn)
              clear bn h3
              have c2 := HR0.out.c2
              go_wp2_with fail
              clear c2
              refine (pSizeT_c HY.out h2 N HN.out (N : Int) rfl D HD.out true KD.out).mono ?_
              rintro e w2 ⟨A4, n4, c4, rfl, h4, bn⟩
              have H4 := Lib.hid (h4 rfl)
              replace HX := Lib.hid (HX.out.below bn)
              replace HY := Lib.hid (HY.out.below bn)
              replace HR0 := Lib.hid (HR0.out.below bn)
              replace HZ := Lib.hid (HZ.out.below bn)
              replace H3 := Lib.hid (H3.out.below bn)
              replace HW := Lib.hid (below_two HW.out bn)
              clear bn h4
              have HB1 : RowKit.Hid (sg z.num = false) := by show _ = _; rw [HSG.out, ks]; rw [decide_eq_false hodd]; rfl
              have hr1 : ((-((N : Int) % 2)) != 0) = false := by rw [bne_eq_false_iff_eq]; omega
              have Z5 : RowKit.Hid (ZZ w2 (sg z.num) A4 n4 c4 (limbs z.num.natAbs) z.num 64) := by
                have h := ZZ.of (s := sg z.num) H4.out
                rw [← HT.out, zz_sg] at h
                exact h
              have Z6 : RowKit.Hid (NN w2 A3 n3 c3 (limbs z.den) z.den 64) := by
                have h := H3.out
                rw [← HBo.out] at h
                exact h
              clear H3 H4
              have c0 := HR0.out.c0
              have e0 := HZ.out.c0
              have e1 := HZ.out.c1
              have e2 := HZ.out.c2
              have f0 := HZ.out.free 0
              have f1 := HZ.out.free 1
              have f2 := HZ.out.free 2
              have hNo := HZ.out.noLimb (by intro v e; cases e) (by intro v e; cases e) (by intro v e; cases e)
              have HF := Lib.hid (HZ.out.fill (.bool (sg z.num)) (.slice A4 n4 c4) (.slice A3 n3 c3))
              have HPn := Lib.hid ((qt_some Z5.out Z6.out Hf.out).fillR3 hNo (.bool (sg z.num)) (.slice A4 n4 c4) (.slice A3 n3 c3))
              have HB := Lib.hid (below_fill3' HW.out Hq.out (.bool (sg z.num)) (.slice A4 n4 c4) (.slice A3 n3 c3))
              rw [HB1.out] at HF HPn HB
              clear hNo
              go_wp2
              refine bodyPost_ret (results_mixed rfl _ _ _ 27 #[.bool false, .slice A4 n4 c4, .slice A3 n3 c3] (0, 0) _ (.int .i64 0) rfl rfl HF.out Try.underlying27 rfl rat_size) rfl ?_
              exact ⟨A4, n4, c4, A3, n3, c3, by rw [← HB1.out]; rfl, HPn.out, HB.out⟩

end
end Go.Proofs.Ytmifgblbicnimaa
