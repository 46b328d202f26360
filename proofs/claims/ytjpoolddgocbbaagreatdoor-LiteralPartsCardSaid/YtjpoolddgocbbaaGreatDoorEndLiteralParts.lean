/- Of any two numbers: a literal's number is its whole part's and its places'. Condition: the listed tables. -/
import Derived.Test.YtjpoolddgocbbaaGreatDoorM9
import Derived.Test.YtjpoolddgocbbaaGreatDoorCards
import Derived.Test.YtjpoolddgocbbaaGreatDoorTie
import Derived.ChangeMaps5
import Derived.Lay
import Derived.SevenTiedAt
/- What the statements' dec answers, as a contract over memory: decimal digits. No condition. -/
namespace Go.Proofs.YtjpoolddgocbbaaGreatDoor
open Go.RowKit Limb
set_option linter.unusedVariables false
theorem one_byte (y : Nat) (hy : y < 256) (W : World) : (convert 66 9 (.slice (some ⟨W.heap.size, 0, none⟩) 1 1)).run Tryz.prog (W.alloc (.cells #[Value.int IntKind.u8 (y : Int)] 5)) = .ok (.string (strOf [y])) (W.alloc (.cells #[Value.int IntKind.u8 (y : Int)] 5)) :=
  run_text ⟨rfl, bytes_cons.2 ⟨hy, bytes_nil⟩, fun _ => ⟨W.heap.size, 0, rfl, by simp, fun j hj => by
    obtain rfl : j = 0 := by omega
    rw [World.cell?_alloc_at _ _ _ _ rfl]; rfl⟩⟩ (by decide)
theorem byte_isB (y : Nat) (hy : y < 256) (W : World) : IsB (W.alloc (.cells #[Value.int IntKind.u8 (y : Int)] 5)) (some ⟨W.heap.size, 0, none⟩) 1 [y] :=
  ⟨rfl, bytes_cons.2 ⟨hy, bytes_nil⟩, fun _ => ⟨W.heap.size, 0, rfl, by simp, fun j hj => by
    obtain rfl : j = 0 := by omega
    rw [World.cell?_alloc_at _ _ _ _ rfl]; rfl⟩⟩

set_option maxHeartbeats 2000000 in
set_option maxRecDepth 100000 in
theorem dec_n : ∀ (n : Nat), n ≤ 9223372036854775807 → ∀ (w : World), Calls Tryz.prog 15 #[.int .i64 (n : Int)] w fun e w' => e = .returned (.string (strOf (decT n))) ∧ Below w.heap.size w w' := by
  intro n
  induction n using Nat.strongRecOn with
  | _ n ih =>
    intro hn w
    have HW := Lib.hid (Below.refl w.heap.size w)
    by_cases h10 : n < 10
    · have hc := one_byte (48 + n) (by omega) w
      have HB := Lib.hid (below_new w (.cells #[Value.int IntKind.u8 ((48 + n : Nat) : Int)] 5))
      obtain ⟨y, hy⟩ : ∃ y, 48 + n = y := ⟨_, rfl⟩
      rw [hy] at hc HB
      have HE : RowKit.Hid (strOf [y] = strOf (decT n)) := by show _ = _; rw [decT_small h10, hy]
      have e1 : IntKind.u8.wrap (n : Int) = (n : Int) := by rw [IntKind.wrap_u8]; omega
      have e2 : IntKind.u8.wrap (48 + (n : Int)) = (y : Int) := by rw [IntKind.wrap_u8]; omega
      have e3 : (48 : Int) + (n : Int) = (y : Int) := by omega
      clear hy HW
      go_enter Tryz.func15, Tryz.ntmps15
      go_wp2
      go_ret
      exact ⟨by rw [← HE.out]; rfl, HB.out⟩
    · obtain ⟨q, hq⟩ : ∃ q, n / 10 = q := ⟨_, rfl⟩
      obtain ⟨m, hm⟩ : ∃ m, n % 10 = m := ⟨_, rfl⟩
      have eq : (n : Int) / 10 = (q : Int) := by omega
      have em : (n : Int) % 10 = (m : Int) := by omega
      have hm9 : m < 10 := by omega
      have ewq : IntKind.i64.wrap (q : Int) = (q : Int) := by rw [IntKind.wrap_i64]; omega
      have etm : (n : Int).tmod 10 = (m : Int) := by rw [Int.tmod_eq_emod_of_nonneg (by omega)]; exact em
      obtain ⟨y, hy⟩ : ∃ y, 48 + m = y := ⟨_, rfl⟩
      have hy9 : y < 256 := by omega
      have ewy : IntKind.u8.wrap (y : Int) = (y : Int) := by rw [IntKind.wrap_u8]; omega
      have e1 : IntKind.u8.wrap (m : Int) = (m : Int) := by rw [IntKind.wrap_u8]; omega
      have e2 : IntKind.u8.wrap (48 + (m : Int)) = (y : Int) := by rw [IntKind.wrap_u8]; omega
      have e3 : (48 : Int) + (m : Int) = (y : Int) := by omega
      have hIH : ∀ W : World, Calls Tryz.prog 15 #[.int .i64 (q : Int)] W fun e w' => e = .returned (.string (strOf (decT q))) ∧ Below W.heap.size W w' := fun W => ih q (by omega) (by omega) W
      obtain ⟨S, hS⟩ : ∃ S, strOf (decT q) = S := ⟨_, rfl⟩
      obtain ⟨Y, hY⟩ : ∃ Y, strOf [y] = Y := ⟨_, rfl⟩
      have zS : S.size ≤ 40 := by rw [← hS, size_strOf]; exact Nat.le_trans (decT_len_le (k := 20) (Nat.lt_of_le_of_lt (show q ≤ 9223372036854775807 by omega) (by decide)) (by decide)) (by decide)
      have zY : Y.size = 1 := by rw [← hY, size_strOf]; rfl
      have HE : RowKit.Hid (S ++ Y = strOf (decT n)) := by show _ = _; rw [← hS, ← hY, strOf_append, show decT n = decT (n / 10) ++ [48 + n % 10] from decT_big (by omega), hq, hm, hy]
      rw [hS] at hIH
      have IH := Lib.hid hIH
      have HY := Lib.hid hY
      clear hIH hS hY hq hm hy
      go_enter Tryz.func15, Tryz.ntmps15
      go_wp2
      obtain ⟨wS, ew⟩ : ∃ v, v = w := ⟨_, rfl⟩
      subst ew
      refine region_free 10 1 [10, 11, 12, 13, 14, 15, 16, 17, 18, 19] ?aF17 (fun wx => Below wS.heap.size wS wx) (fun k vv wx => match k with
          | 0 => vv = .int .i64 (n : Int)
          | 1 => vv = .int .i64 (q : Int)
          | 2 => vv = .string S
          | 3 => vv = .int .i64 (n : Int)
          | 4 => vv = .int .i64 (m : Int)
          | 5 => vv = .int .u8 (m : Int)
          | 6 => vv = .int .u8 (y : Int)
          | 7 => ∃ (e0 : Nat), vv = .slice (some ⟨e0, 0, none⟩) 1 1 ∧ IsB wx (some ⟨e0, 0, none⟩) 1 [y]
          | 8 => vv = .string Y
          | _ => vv = .string (S ++ Y))
        (fun k => false) (by kernel_rfl) ?haF17 rfl (by kernel_rfl) (by kernel_rfl) (fun _ _ _ _ _ h => h) ?hSb17 ?hPb17 ?hS17 ?hop17 ?hfin17
      case haF17 =>
        intro vals
        simp only [fillAll, List.getElem?_cons_zero, List.getElem?_cons_succ, Act.put, List.setIfInBounds_toArray, List.set_cons_zero, List.set_cons_succ]
        exact rfl
      case hSb17 => exact fun wx w2 hb hS => below_two hS hb
      case hPb17 =>
        intro k v wa wb hb h
        match k, h with
        | 0, h => exact h
        | 1, h => exact h
        | 2, h => exact h
        | 3, h => exact h
        | 4, h => exact h
        | 5, h => exact h
        | 6, h => exact h
        | 7, ⟨e0, h1, g0⟩ => exact ⟨e0, h1, g0.below hb⟩
        | 8, h => exact h
        | _ + 9, h => exact h
      case hS17 => exact (Below.refl _ _).drew
      case hop17 =>
        refine .cons (k := 0) ?_ (.cons (k := 1) ?_ (.cons (k := 2) ?_ (.cons (k := 3) ?_ (.cons (k := 4) ?_ (.cons (k := 5) ?_ (.cons (k := 6) ?_ (.cons (k := 7) ?_ (.cons (k := 8) ?_ (.cons (k := 9) ?_ (.nil))))))))))
        all_goals intro vals wr hS hd KC hK
        all_goals (show Oper.wp _ _ _ _ _ _; dsimp only)
        · go_simp
          refine hK _ _ rfl (Below.refl _ _) (by first | rfl | simp) (fun h => by cases h)
        · have d0 : vals 0 = _ := hd 0 (by decide +kernel)
          rw [d0]
          go_simp
          refine hK _ _ rfl (Below.refl _ _) (by first | rfl | simp) (fun h => by cases h)
        · have d1 : vals 1 = _ := hd 1 (by decide +kernel)
          rw [d1]
          go_simp
          go_at_call 15
          with_reducible refine ((IH.out _)).mono ?_
          rintro e w2 ⟨rfl, bn_r⟩
          refine hK _ _ rfl bn_r rfl (fun h => by cases h)
        · go_simp
          refine hK _ _ rfl (Below.refl _ _) (by first | rfl | simp) (fun h => by cases h)
        · have d3 : vals 3 = _ := hd 3 (by decide +kernel)
          rw [d3]
          go_simp
          refine hK _ _ rfl (Below.refl _ _) (by first | rfl | simp) (fun h => by cases h)
        · have d4 : vals 4 = _ := hd 4 (by decide +kernel)
          rw [d4]
          go_simp
          refine hK _ _ rfl (Below.refl _ _) (by first | rfl | simp) (fun h => by cases h)
        · have d5 : vals 5 = _ := hd 5 (by decide +kernel)
          rw [d5]
          go_simp
          refine hK _ _ rfl (Below.refl _ _) (by first | rfl | simp) (fun h => by cases h)
        · have d6 : vals 6 = _ := hd 6 (by decide +kernel)
          rw [d6]
          go_simp
          refine hK _ _ rfl (below_new _ _) ⟨_, rfl, byte_isB y hy9 wr⟩ (fun h => by cases h)
        · obtain ⟨n_7_0, d7, h_7_0⟩ := hd 7 (by decide +kernel)
          rw [d7]
          have hrt := run_text (c := 1) h_7_0 (by decide)
          rw [HY.out] at hrt
          go_simp
          refine hK _ _ rfl (Below.refl _ _) (by first | rfl | simp) (fun h => by cases h)
        · have d2 : vals 2 = _ := hd 2 (by decide +kernel)
          have d8 : vals 8 = _ := hd 8 (by decide +kernel)
          rw [d2, d8]
          go_simp
          rw [if_neg (by omega)]
          go_simp
          refine hK _ _ rfl (Below.refl _ _) (by first | rfl | simp) (fun h => by cases h)
      case hfin17 =>
        intro vals wr hS hP hne
        have ez_9 : vals 9 = _ := hP 9 (by decide)
        have HB := Lib.hid (below_two HW.out hS)
        try dsimp only
        rw [ez_9]
        refine wpAny_ready (rs := [10]) (by kernel_rfl) (by simp) (AllReady.cons rfl (fun KC hK => ?_) AllReady.nil)
        go_simp
        refine hK _ _ ?_
        clear hK KC
        refine wpAny_done (by kernel_rfl) ?_ _
        go_wp2
        go_ret
        exact ⟨by rw [← HE.out]; rfl, HB.out⟩
theorem dec_c (n : Nat) (h : n ≤ 9223372036854775807) (V : Int) (hV : V = n) (S : ByteArray) (hS : strOf (decT n) = S) (w : World) : Calls Tryz.prog 15 #[.int .i64 V] w fun e w' => e = .returned (.string S) ∧ Below w.heap.size w w' := by
  subst hV; subst hS; exact dec_n n h w

end Go.Proofs.YtjpoolddgocbbaaGreatDoor

/- What package whole's Add answers, as a contract over memory: whole numbers in the shortest limbs, 0 not below 0. Conditions: sizes of at most so many limbs; the table of powers of ten where texts are made or read. -/
namespace Go.Proofs.YtjpoolddgocbbaaGreatDoor
open Go.RowKit Limb
set_option linter.unusedVariables false
section
variable {w : World} {s s' : Bool} {A A' : Option Addr} {n c n' c' : Nat} {xs ys : List Nat} {x y : Int} {L L' : Nat}
set_option maxHeartbeats 4000000 in
set_option maxRecDepth 100000 in
theorem wAdd_c (hx : ZZ w s A n c xs x L) (hy : ZZ w s' A' n' c' ys y L') (K : Nat) (h1 : L < K) (h2 : L' < K) (h3 : K ≤ 100000) (z : Int) (hz : x + y = z) :
    Calls Tryz.prog 43 #[.agg #[.bool s, .slice A n c], .agg #[.bool s', .slice A' n' c']] w fun e w' => ∃ A2 n2 c2, e = .returned (.agg #[.bool (sg z), .slice A2 n2 c2]) ∧ ZZ w' (sg z) A2 n2 c2 (limbs z.natAbs) z K ∧ Below w.heap.size w w' := by
  have HX := Lib.hid hx.zof
  have HY := Lib.hid hy.zof
  by_cases hs : s = s'
  · subst hs
    have HS : RowKit.Hid (zOf s (x.natAbs + y.natAbs) = z) := (zOf_add HX.out HY.out).trans hz
    clear hz HX HY
    have b0 := below_new w (.cells #[Value.bool s, Value.slice A n c] 26)
    have b1 := below_new (w.alloc (.cells #[Value.bool s, Value.slice A n c] 26)) (.cells #[Value.bool s, Value.slice A' n' c'] 26)
    have bz := below_new ((w.alloc (.cells #[Value.bool s, Value.slice A n c] 26)).alloc (.cells #[Value.bool s, Value.slice A' n' c'] 26)) zbox
    have HW := Lib.hid (below_two (below_two b0 b1) bz)
    have HN := Lib.hid (hx.nn.below HW.out)
    have HM := Lib.hid (hy.nn.below HW.out)
    have r0 := ((row2_new w 26 (.bool s) (.slice A n c)).below b1).below bz
    have r1 := (row2_new (w.alloc (.cells #[Value.bool s, Value.slice A n c] 26)) 26 (.bool s) (.slice A' n' c')).below bz
    have rz : ZB (((w.alloc (.cells #[Value.bool s, Value.slice A n c] 26)).alloc (.cells #[Value.bool s, Value.slice A' n' c'] 26)).alloc zbox) ((w.alloc (.cells #[Value.bool s, Value.slice A n c] 26)).alloc (.cells #[Value.bool s, Value.slice A' n' c'] 26)).heap.size := row2_new ((w.alloc (.cells #[Value.bool s, Value.slice A n c] 26)).alloc (.cells #[Value.bool s, Value.slice A' n' c'] 26)) _ _ _
    simp only [World.size_alloc] at r1 rz
    clear b0 b1 bz hx hy
    go_enter Tryz.func43, Tryz.ntmps43
    go_wp2_with fail
    generalize ((w.alloc (.cells #[Value.bool s, Value.slice A n c] 26)).alloc (.cells #[Value.bool s, Value.slice A' n' c'] 26)).alloc zbox = w1 at *
    have HR0 := Lib.hid r0
    have c00 := r0.c0
    have c01 := r0.c1
    have HR1 := Lib.hid r1
    have c10 := r1.c0
    have c11 := r1.c1
    have HZ := Lib.hid rz
    clear r0 r1 rz
    clear c00 c01 c10 c11
    refine region_free 8 1 [14, 15, 16, 17, 18, 19, 20, 21] ?aF (fun wx => Below w1.heap.size w1 wx) (fun k v wx => match k with
        | 0 => v = .pointer (some ⟨w.heap.size, 0, none⟩)
        | 1 => v = .bool s
        | 2 => v = .pointer (some ⟨w.heap.size, 1, none⟩)
        | 3 => v = .slice A n c
        | 4 => v = .pointer (some ⟨w.heap.size + 1, 1, none⟩)
        | 5 => v = .slice A' n' c'
        | 6 => ∃ A2 n2 c2, v = .slice A2 n2 c2 ∧ NN wx A2 n2 c2 (limbs (x.natAbs + y.natAbs)) (x.natAbs + y.natAbs) K
        | _ => ∃ A2 n2 c2, v = .agg #[.bool (sg z), .slice A2 n2 c2] ∧ ZZ wx (sg z) A2 n2 c2 (limbs z.natAbs) z K)
      (fun _ => false) (by kernel_rfl) ?haF rfl (by kernel_rfl) (by kernel_rfl) (fun _ _ _ _ _ h => h) ?hSb ?hPb ?hS ?hop ?hfin
    case haF =>
      intro vals
      simp only [fillAll, List.getElem?_cons_zero, List.getElem?_cons_succ, Act.put, List.setIfInBounds_toArray, List.set_cons_zero, List.set_cons_succ]
      exact rfl
    case hSb => exact fun wx w2 hb hS => below_two hS hb
    case hPb =>
      intro k v wa wb hb h
      match k, h with
      | 0, h => exact h
      | 1, h => exact h
      | 2, h => exact h
      | 3, h => exact h
      | 4, h => exact h
      | 5, h => exact h
      | 6, ⟨A2, n2, c2, h1, h2⟩ => exact ⟨A2, n2, c2, h1, h2.below hb⟩
      | _ + 7, ⟨A2, n2, c2, h1, h2⟩ => exact ⟨A2, n2, c2, h1, h2.below hb⟩
    case hS => exact (Below.refl _ _).drew
    case hop =>
      refine .cons (k := 0) ?_ (.cons (k := 1) ?_ (.cons (k := 2) ?_ (.cons (k := 3) ?_ (.cons (k := 4) ?_ (.cons (k := 5) ?_ (.cons (k := 6) ?_ (.cons (k := 7) ?_ (.nil))))))))
      all_goals intro vals wr hS hd KC hK
      all_goals (show Oper.wp _ _ _ _ _ _; dsimp only)
      · go_simp
        refine hK _ _ rfl (Below.refl _ _) rfl (fun h => by cases h)
      · have d0 : vals 0 = _ := hd 0 (by decide +kernel)
        rw [d0]
        have c0 := (HR0.out.below hS).c0
        go_simp
        refine hK _ _ rfl (Below.refl _ _) rfl (fun h => by cases h)
      · go_simp
        refine hK _ _ rfl (Below.refl _ _) rfl (fun h => by cases h)
      · have d2 : vals 2 = _ := hd 2 (by decide +kernel)
        rw [d2]
        have c0 := (HR0.out.below hS).c1
        go_simp
        refine hK _ _ rfl (Below.refl _ _) rfl (fun h => by cases h)
      · go_simp
        refine hK _ _ rfl (Below.refl _ _) rfl (fun h => by cases h)
      · have d4 : vals 4 = _ := hd 4 (by decide +kernel)
        rw [d4]
        have c0 := (HR1.out.below hS).c1
        go_simp
        refine hK _ _ rfl (Below.refl _ _) rfl (fun h => by cases h)
      · have d3 : vals 3 = _ := hd 3 (by decide +kernel)
        have d5 : vals 5 = _ := hd 5 (by decide +kernel)
        rw [d3, d5]
        go_simp
        go_at_call 48
        with_reducible refine (add_c (HN.out.below hS) (HM.out.below hS) K h1 h2 (by omega)).mono ?_
        rintro e w2 ⟨A_r, n_r, c_r, rfl, h_r, bn_r⟩
        refine hK _ _ rfl bn_r ⟨_, _, _, rfl, h_r⟩ (fun h => by cases h)
      · have d1 : vals 1 = _ := hd 1 (by decide +kernel)
        obtain ⟨A_m, n_m, c_m, d6, h_m⟩ := hd 6 (by decide +kernel)
        rw [d1, d6]
        go_simp
        go_at_call 62
        with_reducible refine (signed_c h_m _ z (by first | exact HS.out | simpa using HS.out)).mono ?_
        rintro e w2 ⟨rfl, h_r, bn_r⟩
        refine hK _ _ rfl bn_r ⟨_, _, _, rfl, h_r⟩ (fun h => by cases h)
    case hfin =>
      intro vals wr hS hP hne
      obtain ⟨A2, n2, c2, ez, h3⟩ := hP 7 (by decide)
      have hZ3 := HZ.out.below hS
      obtain ⟨e0, e1, f0, f1⟩ := hZ3.cells
      try dsimp only
      rw [ez]
      have HF := Lib.hid (hZ3.fill (.bool (sg z)) (.slice A2 n2 c2))
      have HP := Lib.hid (h3.put hZ3 (.bool (sg z)) (.slice A2 n2 c2))
      have HB := Lib.hid (below_fill (g := w.heap.size + 1 + 1) (below_two HW.out hS) (by omega) (.bool (sg z)) (.slice A2 n2 c2))
      refine wpAny_ready (rs := [8]) (by kernel_rfl) (by simp) (AllReady.cons rfl (fun KC hK => ?_) AllReady.nil)
      go_simp
      refine hK _ _ ?_
      clear hK KC
      refine wpAny_done (by kernel_rfl) ?_ _
      go_wp2
      refine bodyPost_ret (results_cell_row rfl _ _ (w.heap.size + 1 + 1) 26 #[.bool (sg z), .slice A2 n2 c2] (0, 0) _ rfl HF.out Tryz.underlying26 rfl int_size) rfl ?_
      exact ⟨A2, n2, c2, rfl, HP.out, HB.out⟩
  · by_cases hab : y.natAbs ≤ x.natAbs
    · have HS : RowKit.Hid (zOf s (x.natAbs - y.natAbs) = z) := (zOf_sub HX.out HY.out hs hab).trans hz
      have HK : RowKit.Hid (x.natAbs - y.natAbs < 4294967296 ^ K) := Nat.lt_of_le_of_lt (Nat.sub_le _ _) (Nat.lt_of_lt_of_le (lt_pow hx.nn) (Nat.pow_le_pow_right (by decide) (by omega)))
      clear hz HX HY
      have hs2 : (s == s') = false := by simpa using hs
      clear hs
      have b0 := below_new w (.cells #[Value.bool s, Value.slice A n c] 26)
      have b1 := below_new (w.alloc (.cells #[Value.bool s, Value.slice A n c] 26)) (.cells #[Value.bool s', Value.slice A' n' c'] 26)
      have bz := below_new ((w.alloc (.cells #[Value.bool s, Value.slice A n c] 26)).alloc (.cells #[Value.bool s', Value.slice A' n' c'] 26)) zbox
      have HW := Lib.hid (below_two (below_two b0 b1) bz)
      have HN := Lib.hid (hx.nn.below HW.out)
      have HM := Lib.hid (hy.nn.below HW.out)
      have r0 := ((row2_new w 26 (.bool s) (.slice A n c)).below b1).below bz
      have r1 := (row2_new (w.alloc (.cells #[Value.bool s, Value.slice A n c] 26)) 26 (.bool s') (.slice A' n' c')).below bz
      have rz : ZB (((w.alloc (.cells #[Value.bool s, Value.slice A n c] 26)).alloc (.cells #[Value.bool s', Value.slice A' n' c'] 26)).alloc zbox) ((w.alloc (.cells #[Value.bool s, Value.slice A n c] 26)).alloc (.cells #[Value.bool s', Value.slice A' n' c'] 26)).heap.size := row2_new ((w.alloc (.cells #[Value.bool s, Value.slice A n c] 26)).alloc (.cells #[Value.bool s', Value.slice A' n' c'] 26)) _ _ _
      simp only [World.size_alloc] at r1 rz
      clear b0 b1 bz hx hy
      go_enter Tryz.func43, Tryz.ntmps43
      go_wp2_with fail
      generalize ((w.alloc (.cells #[Value.bool s, Value.slice A n c] 26)).alloc (.cells #[Value.bool s', Value.slice A' n' c'] 26)).alloc zbox = w1 at *
      have HR0 := Lib.hid r0
      have c00 := r0.c0
      have c01 := r0.c1
      have HR1 := Lib.hid r1
      have c10 := r1.c0
      have c11 := r1.c1
      have HZ := Lib.hid rz
      clear r0 r1 rz
      go_wp2_with fail
      refine (sub_yes HN.out HM.out (by omega) (by omega) hab).mono ?_
      rintro e w2 ⟨A2, n2, c2, rfl, h2, bn2⟩
      have BN2 := Lib.hid bn2
      have d200 := (HR0.out.below BN2.out).c0
      have d201 := (HR0.out.below BN2.out).c1
      have d210 := (HR1.out.below BN2.out).c0
      have d211 := (HR1.out.below BN2.out).c1
      clear bn2
      go_wp2_with fail
      refine (signed_c (h2.relax HK.out) _ z (by first | exact HS.out | simpa using HS.out)).mono ?_
      rintro e w4 ⟨rfl, h4, bm⟩
      have BN4 := Lib.hid (below_two BN2.out bm)
      obtain ⟨e0, e1, f0, f1⟩ := (HZ.out.below BN4.out).cells
      have HF := Lib.hid ((HZ.out.below BN4.out).fill (.bool (sg z)) (.slice A2 n2 c2))
      have HP := Lib.hid (h4.put (HZ.out.below BN4.out) (.bool (sg z)) (.slice A2 n2 c2))
      have HB := Lib.hid (below_fill (g := w.heap.size + 1 + 1) (below_two HW.out BN4.out) (by omega) (.bool (sg z)) (.slice A2 n2 c2))
      clear bm
      go_wp2
      refine bodyPost_ret (results_cell_row rfl _ _ (w.heap.size + 1 + 1) 26 #[.bool (sg z), .slice A2 n2 c2] (0, 0) _ rfl HF.out Tryz.underlying26 rfl int_size) rfl ?_
      exact ⟨A2, n2, c2, rfl, HP.out, HB.out⟩
    · have HS : RowKit.Hid (zOf s' (y.natAbs - x.natAbs) = z) := (zOf_sub HY.out HX.out (Ne.symm hs) (by omega)).trans ((Int.add_comm _ _).trans hz)
      have HK : RowKit.Hid (y.natAbs - x.natAbs < 4294967296 ^ K) := Nat.lt_of_le_of_lt (Nat.sub_le _ _) (Nat.lt_of_lt_of_le (lt_pow hy.nn) (Nat.pow_le_pow_right (by decide) (by omega)))
      have hba : x.natAbs ≤ y.natAbs := by omega
      clear hz HX HY
      have hs2 : (s == s') = false := by simpa using hs
      clear hs
      have b0 := below_new w (.cells #[Value.bool s, Value.slice A n c] 26)
      have b1 := below_new (w.alloc (.cells #[Value.bool s, Value.slice A n c] 26)) (.cells #[Value.bool s', Value.slice A' n' c'] 26)
      have bz := below_new ((w.alloc (.cells #[Value.bool s, Value.slice A n c] 26)).alloc (.cells #[Value.bool s', Value.slice A' n' c'] 26)) zbox
      have HW := Lib.hid (below_two (below_two b0 b1) bz)
      have HN := Lib.hid (hx.nn.below HW.out)
      have HM := Lib.hid (hy.nn.below HW.out)
      have r0 := ((row2_new w 26 (.bool s) (.slice A n c)).below b1).below bz
      have r1 := (row2_new (w.alloc (.cells #[Value.bool s, Value.slice A n c] 26)) 26 (.bool s') (.slice A' n' c')).below bz
      have rz : ZB (((w.alloc (.cells #[Value.bool s, Value.slice A n c] 26)).alloc (.cells #[Value.bool s', Value.slice A' n' c'] 26)).alloc zbox) ((w.alloc (.cells #[Value.bool s, Value.slice A n c] 26)).alloc (.cells #[Value.bool s', Value.slice A' n' c'] 26)).heap.size := row2_new ((w.alloc (.cells #[Value.bool s, Value.slice A n c] 26)).alloc (.cells #[Value.bool s', Value.slice A' n' c'] 26)) _ _ _
      simp only [World.size_alloc] at r1 rz
      clear b0 b1 bz hx hy
      go_enter Tryz.func43, Tryz.ntmps43
      go_wp2_with fail
      generalize ((w.alloc (.cells #[Value.bool s, Value.slice A n c] 26)).alloc (.cells #[Value.bool s', Value.slice A' n' c'] 26)).alloc zbox = w1 at *
      have HR0 := Lib.hid r0
      have c00 := r0.c0
      have c01 := r0.c1
      have HR1 := Lib.hid r1
      have c10 := r1.c0
      have c11 := r1.c1
      have HZ := Lib.hid rz
      clear r0 r1 rz
      go_wp2_with fail
      refine (sub_no HN.out HM.out (by omega) (by omega) (by omega)).mono ?_
      rintro e w2 ⟨Au, nu, cu, rfl, h2, bn2⟩
      have BN2 := Lib.hid bn2
      have d200 := (HR0.out.below BN2.out).c0
      have d201 := (HR0.out.below BN2.out).c1
      have d210 := (HR1.out.below BN2.out).c0
      have d211 := (HR1.out.below BN2.out).c1
      clear bn2
      clear h2
      go_wp2_with fail
      refine (sub_yes (HM.out.below BN2.out) (HN.out.below BN2.out) (by omega) (by omega) hba).mono ?_
      rintro e w3 ⟨A2, n2, c2, rfl, h3, bn3⟩
      have BN3 := Lib.hid (below_two BN2.out bn3)
      have d300 := (HR0.out.below BN3.out).c0
      have d301 := (HR0.out.below BN3.out).c1
      have d310 := (HR1.out.below BN3.out).c0
      have d311 := (HR1.out.below BN3.out).c1
      clear bn3
      go_wp2_with fail
      refine (signed_c (h3.relax HK.out) _ z (by first | exact HS.out | simpa using HS.out)).mono ?_
      rintro e w4 ⟨rfl, h4, bm⟩
      have BN4 := Lib.hid (below_two BN3.out bm)
      obtain ⟨e0, e1, f0, f1⟩ := (HZ.out.below BN4.out).cells
      have HF := Lib.hid ((HZ.out.below BN4.out).fill (.bool (sg z)) (.slice A2 n2 c2))
      have HP := Lib.hid (h4.put (HZ.out.below BN4.out) (.bool (sg z)) (.slice A2 n2 c2))
      have HB := Lib.hid (below_fill (g := w.heap.size + 1 + 1) (below_two HW.out BN4.out) (by omega) (.bool (sg z)) (.slice A2 n2 c2))
      clear bm
      go_wp2
      refine bodyPost_ret (results_cell_row rfl _ _ (w.heap.size + 1 + 1) 26 #[.bool (sg z), .slice A2 n2 c2] (0, 0) _ rfl HF.out Tryz.underlying26 rfl int_size) rfl ?_
      exact ⟨A2, n2, c2, rfl, HP.out, HB.out⟩
end

end Go.Proofs.YtjpoolddgocbbaaGreatDoor

/- What package rat's Add, Sub and Mul answer, as contracts over memory. Conditions: sizes of at most so many limbs. -/
namespace Go.Proofs.YtjpoolddgocbbaaGreatDoor
open Go.RowKit Limb
set_option linter.unusedVariables false
section
variable {w : World} {s s' : Bool} {A B A' B' : Option Addr} {n c m d n' c' m' d' : Nat} {xs ys xs' ys' : List Nat} {x y : Int} {o o' : Option Rat} {a b L L' : Nat}
set_option maxHeartbeats 4000000 in
set_option maxRecDepth 100000 in
theorem rAdd_c (hx : QQ w s A n c xs B m d ys o L) (hx' : QQ w s' A' n' c' xs' B' m' d' ys' o' L') (h1 : L ≤ 1000) (h2 : L' ≤ 1000) (r : Option Rat) (e : Int) (hR : addR o o' = (r, e)) :
    Calls Tryz.prog 19 #[.agg #[.bool s, .slice A n c, .slice B m d], .agg #[.bool s', .slice A' n' c', .slice B' m' d']] w fun ee w' => ∃ A2 n2 c2 B2 m2 d2, ee = .returned (.tuple #[.agg #[.bool (sg (oTop r)), .slice A2 n2 c2, .slice B2 m2 d2], .int .i64 e]) ∧ QT w' A2 n2 c2 B2 m2 d2 r ∧ Below w.heap.size w w' := by
  cases o with
  | none =>
    have hR2 : ((none : Option Rat), (1 : Int)) = (r, e) := hR
    cases hR2
    clear hR
    have b0 := below_new w (.cells #[Value.bool s, Value.slice A n c, Value.slice B m d] 28)
    have b1 := below_new (w.alloc (.cells #[Value.bool s, Value.slice A n c, Value.slice B m d] 28)) (.cells #[Value.bool s', Value.slice A' n' c', Value.slice B' m' d'] 28)
    have b2 := below_new ((w.alloc (.cells #[Value.bool s, Value.slice A n c, Value.slice B m d] 28)).alloc (.cells #[Value.bool s', Value.slice A' n' c', Value.slice B' m' d'] 28)) (.cells #[Value.bool false, Value.slice none 0 0, Value.slice none 0 0] 28)
    have HW := Lib.hid (below_two (below_two b0 b1) b2)
    have HQ0 := Lib.hid (hx.below HW.out)
    have HQ1 := Lib.hid (hx'.below HW.out)
    have r0 := ((row3_new w 28 (.bool s) (.slice A n c) (.slice B m d)).below b1).below b2
    have r1 := (row3_new (w.alloc (.cells #[Value.bool s, Value.slice A n c, Value.slice B m d] 28)) 28 (.bool s') (.slice A' n' c') (.slice B' m' d')).below b2
    have rz := row3_new ((w.alloc (.cells #[Value.bool s, Value.slice A n c, Value.slice B m d] 28)).alloc (.cells #[Value.bool s', Value.slice A' n' c', Value.slice B' m' d'] 28)) 28 (.bool false) (.slice none 0 0) (.slice none 0 0)
    simp only [World.size_alloc] at r1 rz
    clear b0 b1 b2 hx hx'
    go_enter Tryz.func19, Tryz.ntmps19
    go_wp2_with fail
    generalize ((w.alloc (.cells #[Value.bool s, Value.slice A n c, Value.slice B m d] 28)).alloc (.cells #[Value.bool s', Value.slice A' n' c', Value.slice B' m' d'] 28)).alloc (.cells #[Value.bool false, Value.slice none 0 0, Value.slice none 0 0] 28) = w1 at *
    have HR0 := Lib.hid r0
    have HR1 := Lib.hid r1
    have HZ := Lib.hid rz
    have Hq : RowKit.Hid (w.heap.size ≤ w.heap.size + 1 + 1) := by show _ ≤ _; omega
    clear r0 r1 rz
    refine (rGood_c HQ0.out (by omega) false rfl).mono ?_
    rintro e w2 ⟨rfl, bn⟩
    replace HQ0 := Lib.hid (HQ0.out.below bn)
    replace HR0 := Lib.hid (HR0.out.below bn)
    replace HQ1 := Lib.hid (HQ1.out.below bn)
    replace HR1 := Lib.hid (HR1.out.below bn)
    replace HZ := Lib.hid (HZ.out.below bn)
    replace HW := Lib.hid (below_two HW.out bn)
    clear bn
    have e0 := HZ.out.c0
    have e1 := HZ.out.c1
    have e2 := HZ.out.c2
    have f0 := HZ.out.free 0
    have f1 := HZ.out.free 1
    have f2 := HZ.out.free 2
    have HF := Lib.hid (HZ.out.fill (.bool false) (.slice none 0 0) (.slice none 0 0))
    have HB := Lib.hid (below_fill3' HW.out Hq.out (.bool false) (.slice none 0 0) (.slice none 0 0))
    go_wp2
    refine bodyPost_ret (results_mixed rfl _ _ _ 28 #[.bool false, .slice none 0 0, .slice none 0 0] (0, 0) _ (.int .i64 1) rfl rfl HF.out Tryz.underlying28 rfl rat_size) rfl ?_
    exact ⟨none, 0, 0, none, 0, 0, rfl, qt_none _ 0 0, HB.out⟩
  | some p =>
    cases o' with
    | none =>
      have hR2 : ((none : Option Rat), (1 : Int)) = (r, e) := hR
      cases hR2
      clear hR
      have b0 := below_new w (.cells #[Value.bool s, Value.slice A n c, Value.slice B m d] 28)
      have b1 := below_new (w.alloc (.cells #[Value.bool s, Value.slice A n c, Value.slice B m d] 28)) (.cells #[Value.bool s', Value.slice A' n' c', Value.slice B' m' d'] 28)
      have b2 := below_new ((w.alloc (.cells #[Value.bool s, Value.slice A n c, Value.slice B m d] 28)).alloc (.cells #[Value.bool s', Value.slice A' n' c', Value.slice B' m' d'] 28)) (.cells #[Value.bool false, Value.slice none 0 0, Value.slice none 0 0] 28)
      have HW := Lib.hid (below_two (below_two b0 b1) b2)
      have HQ0 := Lib.hid (hx.below HW.out)
      have HQ1 := Lib.hid (hx'.below HW.out)
      have r0 := ((row3_new w 28 (.bool s) (.slice A n c) (.slice B m d)).below b1).below b2
      have r1 := (row3_new (w.alloc (.cells #[Value.bool s, Value.slice A n c, Value.slice B m d] 28)) 28 (.bool s') (.slice A' n' c') (.slice B' m' d')).below b2
      have rz := row3_new ((w.alloc (.cells #[Value.bool s, Value.slice A n c, Value.slice B m d] 28)).alloc (.cells #[Value.bool s', Value.slice A' n' c', Value.slice B' m' d'] 28)) 28 (.bool false) (.slice none 0 0) (.slice none 0 0)
      simp only [World.size_alloc] at r1 rz
      clear b0 b1 b2 hx hx'
      go_enter Tryz.func19, Tryz.ntmps19
      go_wp2_with fail
      generalize ((w.alloc (.cells #[Value.bool s, Value.slice A n c, Value.slice B m d] 28)).alloc (.cells #[Value.bool s', Value.slice A' n' c', Value.slice B' m' d'] 28)).alloc (.cells #[Value.bool false, Value.slice none 0 0, Value.slice none 0 0] 28) = w1 at *
      have HR0 := Lib.hid r0
      have HR1 := Lib.hid r1
      have HZ := Lib.hid rz
      have Hq : RowKit.Hid (w.heap.size ≤ w.heap.size + 1 + 1) := by show _ ≤ _; omega
      clear r0 r1 rz
      refine (rGood_c HQ0.out (by omega) true rfl).mono ?_
      rintro e w2 ⟨rfl, bn⟩
      replace HQ0 := Lib.hid (HQ0.out.below bn)
      replace HR0 := Lib.hid (HR0.out.below bn)
      replace HQ1 := Lib.hid (HQ1.out.below bn)
      replace HR1 := Lib.hid (HR1.out.below bn)
      replace HZ := Lib.hid (HZ.out.below bn)
      replace HW := Lib.hid (below_two HW.out bn)
      clear bn
      have c10 := HR1.out.c0
      have c11 := HR1.out.c1
      have c12 := HR1.out.c2
      go_wp2_with fail
      clear c10 c11 c12
      refine (rGood_c HQ1.out (by omega) false rfl).mono ?_
      rintro e w2 ⟨rfl, bn⟩
      replace HQ0 := Lib.hid (HQ0.out.below bn)
      replace HR0 := Lib.hid (HR0.out.below bn)
      replace HQ1 := Lib.hid (HQ1.out.below bn)
      replace HR1 := Lib.hid (HR1.out.below bn)
      replace HZ := Lib.hid (HZ.out.below bn)
      replace HW := Lib.hid (below_two HW.out bn)
      clear bn
      have e0 := HZ.out.c0
      have e1 := HZ.out.c1
      have e2 := HZ.out.c2
      have f0 := HZ.out.free 0
      have f1 := HZ.out.free 1
      have f2 := HZ.out.free 2
      have HF := Lib.hid (HZ.out.fill (.bool false) (.slice none 0 0) (.slice none 0 0))
      have HB := Lib.hid (below_fill3' HW.out Hq.out (.bool false) (.slice none 0 0) (.slice none 0 0))
      go_wp2
      refine bodyPost_ret (results_mixed rfl _ _ _ 28 #[.bool false, .slice none 0 0, .slice none 0 0] (0, 0) _ (.int .i64 1) rfl rfl HF.out Tryz.underlying28 rfl rat_size) rfl ?_
      exact ⟨none, 0, 0, none, 0, 0, rfl, qt_none _ 0 0, HB.out⟩
    | some q =>
      have HO : RowKit.Hid (ofR (p.num * (q.den : Int) + q.num * (p.den : Int)) (p.den * q.den) = (r, e)) := by
        show _ = _
        rw [← hR]; unfold ofR; rw [if_neg (Nat.mul_ne_zero p.den_nz q.den_nz)]
        show limR _ = limR _
        rw [add_mk]
      clear hR
      have b0 := below_new w (.cells #[Value.bool s, Value.slice A n c, Value.slice B m d] 28)
      have b1 := below_new (w.alloc (.cells #[Value.bool s, Value.slice A n c, Value.slice B m d] 28)) (.cells #[Value.bool s', Value.slice A' n' c', Value.slice B' m' d'] 28)
      have b2 := below_new ((w.alloc (.cells #[Value.bool s, Value.slice A n c, Value.slice B m d] 28)).alloc (.cells #[Value.bool s', Value.slice A' n' c', Value.slice B' m' d'] 28)) (.cells #[Value.bool false, Value.slice none 0 0, Value.slice none 0 0] 28)
      have HW := Lib.hid (below_two (below_two b0 b1) b2)
      have HQ0 := Lib.hid (hx.below HW.out)
      have HQ1 := Lib.hid (hx'.below HW.out)
      have r0 := ((row3_new w 28 (.bool s) (.slice A n c) (.slice B m d)).below b1).below b2
      have r1 := (row3_new (w.alloc (.cells #[Value.bool s, Value.slice A n c, Value.slice B m d] 28)) 28 (.bool s') (.slice A' n' c') (.slice B' m' d')).below b2
      have rz := row3_new ((w.alloc (.cells #[Value.bool s, Value.slice A n c, Value.slice B m d] 28)).alloc (.cells #[Value.bool s', Value.slice A' n' c', Value.slice B' m' d'] 28)) 28 (.bool false) (.slice none 0 0) (.slice none 0 0)
      simp only [World.size_alloc] at r1 rz
      clear b0 b1 b2 hx hx'
      go_enter Tryz.func19, Tryz.ntmps19
      go_wp2_with fail
      generalize ((w.alloc (.cells #[Value.bool s, Value.slice A n c, Value.slice B m d] 28)).alloc (.cells #[Value.bool s', Value.slice A' n' c', Value.slice B' m' d'] 28)).alloc (.cells #[Value.bool false, Value.slice none 0 0, Value.slice none 0 0] 28) = w1 at *
      have HR0 := Lib.hid r0
      have HR1 := Lib.hid r1
      have HZ := Lib.hid rz
      have Hq : RowKit.Hid (w.heap.size ≤ w.heap.size + 1 + 1) := by show _ ≤ _; omega
      clear r0 r1 rz
      refine (rGood_c HQ0.out (by omega) true rfl).mono ?_
      rintro e w2 ⟨rfl, bn⟩
      replace HQ0 := Lib.hid (HQ0.out.below bn)
      replace HR0 := Lib.hid (HR0.out.below bn)
      replace HQ1 := Lib.hid (HQ1.out.below bn)
      replace HR1 := Lib.hid (HR1.out.below bn)
      replace HZ := Lib.hid (HZ.out.below bn)
      replace HW := Lib.hid (below_two HW.out bn)
      clear bn
      have c10 := HR1.out.c0
      have c11 := HR1.out.c1
      have c12 := HR1.out.c2
      go_wp2_with fail
      clear c10 c11 c12
      refine (rGood_c HQ1.out (by omega) true rfl).mono ?_
      rintro e wS ⟨rfl, bn⟩
      replace HQ0 := Lib.hid (HQ0.out.below bn)
      replace HR0 := Lib.hid (HR0.out.below bn)
      replace HQ1 := Lib.hid (HQ1.out.below bn)
      replace HR1 := Lib.hid (HR1.out.below bn)
      replace HZ := Lib.hid (HZ.out.below bn)
      replace HW := Lib.hid (below_two HW.out bn)
      clear bn
      have HX := Lib.hid HQ0.out.some.2.2.2.2.1
      have HY := Lib.hid HQ0.out.some.2.2.2.2.2.1
      have HX1 := Lib.hid HQ1.out.some.2.2.2.2.1
      have HY1 := Lib.hid HQ1.out.some.2.2.2.2.2.1
      go_wp2_with fail
      refine region_free 15 2 [15, 16, 17, 18, 19, 20, 21, 22, 23, 24, 25, 26, 27, 28, 29] ?aF6 (fun wx => Below wS.heap.size wS wx) (fun k vv wx => match k with
          | 0 => vv = .agg #[.bool s, .slice A n c, .slice B m d]
          | 1 => vv = .agg #[.bool s', .slice A' n' c', .slice B' m' d']
          | 2 => ∃ (e0 : Option Addr) (e1 : Nat) (e2 : Nat), vv = .agg #[.bool (sg (p.num * (q.den : Int))), .slice e0 e1 e2] ∧ ZZ wx (sg (p.num * (q.den : Int))) e0 e1 e2 (limbs (p.num * (q.den : Int)).natAbs) (p.num * (q.den : Int)) 128
          | 3 => vv = .agg #[.bool s', .slice A' n' c', .slice B' m' d']
          | 4 => vv = .agg #[.bool s, .slice A n c, .slice B m d]
          | 5 => ∃ (e0 : Option Addr) (e1 : Nat) (e2 : Nat), vv = .agg #[.bool (sg (q.num * (p.den : Int))), .slice e0 e1 e2] ∧ ZZ wx (sg (q.num * (p.den : Int))) e0 e1 e2 (limbs (q.num * (p.den : Int)).natAbs) (q.num * (p.den : Int)) 128
          | 6 => ∃ (e0 : Option Addr) (e1 : Nat) (e2 : Nat), vv = .agg #[.bool (sg (p.num * (q.den : Int) + q.num * (p.den : Int))), .slice e0 e1 e2] ∧ ZZ wx (sg (p.num * (q.den : Int) + q.num * (p.den : Int))) e0 e1 e2 (limbs (p.num * (q.den : Int) + q.num * (p.den : Int)).natAbs) (p.num * (q.den : Int) + q.num * (p.den : Int)) 129
          | 7 => vv = .pointer (some ⟨w.heap.size, 2, none⟩)
          | 8 => vv = .slice B m d
          | 9 => vv = .pointer (some ⟨w.heap.size + 1, 2, none⟩)
          | 10 => vv = .slice B' m' d'
          | 11 => ∃ (e0 : Option Addr) (e1 : Nat) (e2 : Nat), vv = .slice e0 e1 e2 ∧ NN wx e0 e1 e2 (limbs (p.den * q.den)) (p.den * q.den) 128
          | 12 => ∃ (e0 : Option Addr) (e1 : Nat) (e2 : Nat) (e3 : Option Addr) (e4 : Nat) (e5 : Nat), vv = .tuple #[.agg #[.bool (sg (oTop r)), .slice e0 e1 e2, .slice e3 e4 e5], .int .i64 e] ∧ QT wx e0 e1 e2 e3 e4 e5 r
          | 13 => ∃ (e0 : Option Addr) (e1 : Nat) (e2 : Nat) (e3 : Option Addr) (e4 : Nat) (e5 : Nat), vv = .agg #[.bool (sg (oTop r)), .slice e0 e1 e2, .slice e3 e4 e5] ∧ QT wx e0 e1 e2 e3 e4 e5 r
          | _ => vv = .int .i64 e)
        (fun k => false) (by kernel_rfl) ?haF6 rfl (by kernel_rfl) (by kernel_rfl) (fun _ _ _ _ _ h => h) ?hSb6 ?hPb6 ?hS6 ?hop6 ?hfin6
      case haF6 =>
        intro vals
        simp only [fillAll, List.getElem?_cons_zero, List.getElem?_cons_succ, Act.put, List.setIfInBounds_toArray, List.set_cons_zero, List.set_cons_succ]
        exact rfl
      case hSb6 => exact fun wx w2 hb hS => below_two hS hb
      case hPb6 =>
        intro k v wa wb hb h
        match k, h with
        | 0, h => exact h
        | 1, h => exact h
        | 2, ⟨e0, e1, e2, h1, g0⟩ => exact ⟨e0, e1, e2, h1, g0.below hb⟩
        | 3, h => exact h
        | 4, h => exact h
        | 5, ⟨e0, e1, e2, h1, g0⟩ => exact ⟨e0, e1, e2, h1, g0.below hb⟩
        | 6, ⟨e0, e1, e2, h1, g0⟩ => exact ⟨e0, e1, e2, h1, g0.below hb⟩
        | 7, h => exact h
        | 8, h => exact h
        | 9, h => exact h
        | 10, h => exact h
        | 11, ⟨e0, e1, e2, h1, g0⟩ => exact ⟨e0, e1, e2, h1, g0.below hb⟩
        | 12, ⟨e0, e1, e2, e3, e4, e5, h1, g0⟩ => exact ⟨e0, e1, e2, e3, e4, e5, h1, g0.below hb⟩
        | 13, ⟨e0, e1, e2, e3, e4, e5, h1, g0⟩ => exact ⟨e0, e1, e2, e3, e4, e5, h1, g0.below hb⟩
        | _ + 14, h => exact h
      case hS6 => exact (Below.refl _ _).drew
      case hop6 =>
        refine .cons (k := 0) ?_ (.cons (k := 1) ?_ (.cons (k := 2) ?_ (.cons (k := 3) ?_ (.cons (k := 4) ?_ (.cons (k := 5) ?_ (.cons (k := 6) ?_ (.cons (k := 7) ?_ (.cons (k := 8) ?_ (.cons (k := 9) ?_ (.cons (k := 10) ?_ (.cons (k := 11) ?_ (.cons (k := 12) ?_ (.cons (k := 13) ?_ (.cons (k := 14) ?_ (.nil)))))))))))))))
        all_goals intro vals wr hS hd KC hK
        all_goals (show Oper.wp _ _ _ _ _ _; dsimp only)
        · have z0 := (HR0.out.below hS).c0
          have z1 := (HR0.out.below hS).c1
          have z2 := (HR0.out.below hS).c2
          go_simp
          refine hK _ _ rfl (Below.refl _ _) (by first | rfl | simp) (fun h => by cases h)
        · have z0 := (HR1.out.below hS).c0
          have z1 := (HR1.out.below hS).c1
          have z2 := (HR1.out.below hS).c2
          go_simp
          refine hK _ _ rfl (Below.refl _ _) (by first | rfl | simp) (fun h => by cases h)
        · have d0 : vals 0 = _ := hd 0 (by decide +kernel)
          have d1 : vals 1 = _ := hd 1 (by decide +kernel)
          rw [d0, d1]
          go_simp
          go_at_call 42
          with_reducible refine (rCross_c (HX.out.below hS) (HY1.out.below hS) (by decide) (by decide) (p.num * (q.den : Int)) rfl).mono ?_
          rintro e w2 ⟨r0, r1, r2, rfl, f0, bn_r⟩
          refine hK _ _ rfl bn_r ⟨_, _, _, rfl, f0⟩ (fun h => by cases h)
        · have z0 := (HR1.out.below hS).c0
          have z1 := (HR1.out.below hS).c1
          have z2 := (HR1.out.below hS).c2
          go_simp
          refine hK _ _ rfl (Below.refl _ _) (by first | rfl | simp) (fun h => by cases h)
        · have z0 := (HR0.out.below hS).c0
          have z1 := (HR0.out.below hS).c1
          have z2 := (HR0.out.below hS).c2
          go_simp
          refine hK _ _ rfl (Below.refl _ _) (by first | rfl | simp) (fun h => by cases h)
        · have d3 : vals 3 = _ := hd 3 (by decide +kernel)
          have d4 : vals 4 = _ := hd 4 (by decide +kernel)
          rw [d3, d4]
          go_simp
          go_at_call 42
          with_reducible refine (rCross_c (HX1.out.below hS) (HY.out.below hS) (by decide) (by decide) (q.num * (p.den : Int)) rfl).mono ?_
          rintro e w2 ⟨r0, r1, r2, rfl, f0, bn_r⟩
          refine hK _ _ rfl bn_r ⟨_, _, _, rfl, f0⟩ (fun h => by cases h)
        · obtain ⟨A_2_0, n_2_1, n_2_2, d2, h_2_0⟩ := hd 2 (by decide +kernel)
          obtain ⟨A_5_0, n_5_1, n_5_2, d5, h_5_0⟩ := hd 5 (by decide +kernel)
          rw [d2, d5]
          go_simp
          go_at_call 43
          with_reducible refine (wAdd_c h_2_0 h_5_0 129 (by decide) (by decide) (by decide) (p.num * (q.den : Int) + q.num * (p.den : Int)) rfl).mono ?_
          rintro e w2 ⟨r0, r1, r2, rfl, f0, bn_r⟩
          refine hK _ _ rfl bn_r ⟨_, _, _, rfl, f0⟩ (fun h => by cases h)
        · go_simp
          refine hK _ _ rfl (Below.refl _ _) (by first | rfl | simp) (fun h => by cases h)
        · have d7 : vals 7 = _ := hd 7 (by decide +kernel)
          rw [d7]
          have z0 := (HR0.out.below hS).c2
          go_simp
          refine hK _ _ rfl (Below.refl _ _) (by first | rfl | simp) (fun h => by cases h)
        · go_simp
          refine hK _ _ rfl (Below.refl _ _) (by first | rfl | simp) (fun h => by cases h)
        · have d9 : vals 9 = _ := hd 9 (by decide +kernel)
          rw [d9]
          have z0 := (HR1.out.below hS).c2
          go_simp
          refine hK _ _ rfl (Below.refl _ _) (by first | rfl | simp) (fun h => by cases h)
        · have d8 : vals 8 = _ := hd 8 (by decide +kernel)
          have d10 : vals 10 = _ := hd 10 (by decide +kernel)
          rw [d8, d10]
          go_simp
          go_at_call 41
          with_reducible refine (mulOf_c (HY.out.below hS) (HY1.out.below hS) 128 (by decide) (by decide) (by decide)).mono ?_
          rintro e w2 ⟨r0, r1, r2, rfl, f0, bn_r⟩
          refine hK _ _ rfl bn_r ⟨_, _, _, rfl, f0⟩ (fun h => by cases h)
        · obtain ⟨A_6_0, n_6_1, n_6_2, d6, h_6_0⟩ := hd 6 (by decide +kernel)
          obtain ⟨A_11_0, n_11_1, n_11_2, d11, h_11_0⟩ := hd 11 (by decide +kernel)
          rw [d6, d11]
          go_simp
          go_at_call 39
          with_reducible refine (rOf_c h_6_0 h_11_0 (by decide) (by decide) r e HO.out).mono ?_
          rintro e w2 ⟨r0, r1, r2, r3, r4, r5, rfl, f0, bn_r⟩
          refine hK _ _ rfl bn_r ⟨_, _, _, _, _, _, rfl, f0⟩ (fun h => by cases h)
        · obtain ⟨A_12_0, n_12_1, n_12_2, A_12_3, n_12_4, n_12_5, d12, h_12_0⟩ := hd 12 (by decide +kernel)
          rw [d12]
          go_simp
          refine hK _ _ rfl (Below.refl _ _) ⟨_, _, _, _, _, _, rfl, h_12_0⟩ (fun h => by cases h)
        · obtain ⟨A_12_0, n_12_1, n_12_2, A_12_3, n_12_4, n_12_5, d12, h_12_0⟩ := hd 12 (by decide +kernel)
          rw [d12]
          go_simp
          refine hK _ _ rfl (Below.refl _ _) rfl (fun h => by cases h)
      case hfin6 =>
        intro vals wr hS hP hne
        obtain ⟨A_13_0, n_13_1, n_13_2, A_13_3, n_13_4, n_13_5, ez_13, h_13_0⟩ := hP 13 (by decide)
        have ez_14 : vals 14 = _ := hP 14 (by decide)
        have hZ3 := HZ.out.below hS
        have hNo := hZ3.noLimb (by intro v e; cases e) (by intro v e; cases e) (by intro v e; cases e)
        have e0 := hZ3.c0
        have e1 := hZ3.c1
        have e2 := hZ3.c2
        have f0 := hZ3.free 0
        have f1 := hZ3.free 1
        have f2 := hZ3.free 2
        have HF := Lib.hid (hZ3.fill (.bool (sg (oTop r))) (.slice A_13_0 n_13_1 n_13_2) (.slice A_13_3 n_13_4 n_13_5))
        have HP := Lib.hid (QQ.fillR3 h_13_0 hNo (.bool (sg (oTop r))) (.slice A_13_0 n_13_1 n_13_2) (.slice A_13_3 n_13_4 n_13_5))
        have HB := Lib.hid (below_fill3' (below_two HW.out hS) Hq.out (.bool (sg (oTop r))) (.slice A_13_0 n_13_1 n_13_2) (.slice A_13_3 n_13_4 n_13_5))
        try dsimp only
        rw [ez_13, ez_14]
        refine wpAny_ready (rs := [15]) (by kernel_rfl) (by simp) (AllReady.cons rfl (fun KC hK => ?_) AllReady.nil)
        go_simp
        refine hK _ _ ?_
        clear hK KC
        refine wpAny_ready (rs := [16]) (by kernel_rfl) (by simp) (AllReady.cons rfl (fun KC hK => ?_) AllReady.nil)
        go_simp
        refine hK _ _ ?_
        clear hK KC
        refine wpAny_done (by kernel_rfl) ?_ _
        go_wp2
        refine bodyPost_ret (results_mixed rfl _ _ _ 28 #[.bool (sg (oTop r)), .slice A_13_0 n_13_1 n_13_2, .slice A_13_3 n_13_4 n_13_5] (0, 0) _ (.int .i64 e) rfl rfl HF.out Tryz.underlying28 rfl rat_size) rfl ?_
        exact ⟨A_13_0, n_13_1, n_13_2, A_13_3, n_13_4, n_13_5, rfl, HP.out, HB.out⟩

set_option maxHeartbeats 4000000 in
set_option maxRecDepth 100000 in
theorem rMul_c (hx : QQ w s A n c xs B m d ys o L) (hx' : QQ w s' A' n' c' xs' B' m' d' ys' o' L') (h1 : L ≤ 1000) (h2 : L' ≤ 1000) (r : Option Rat) (e : Int) (hR : mulR o o' = (r, e)) :
    Calls Tryz.prog 17 #[.agg #[.bool s, .slice A n c, .slice B m d], .agg #[.bool s', .slice A' n' c', .slice B' m' d']] w fun ee w' => ∃ A2 n2 c2 B2 m2 d2, ee = .returned (.tuple #[.agg #[.bool (sg (oTop r)), .slice A2 n2 c2, .slice B2 m2 d2], .int .i64 e]) ∧ QT w' A2 n2 c2 B2 m2 d2 r ∧ Below w.heap.size w w' := by
  cases o with
  | none =>
    have hR2 : ((none : Option Rat), (1 : Int)) = (r, e) := hR
    cases hR2
    clear hR
    have b0 := below_new w (.cells #[Value.bool s, Value.slice A n c, Value.slice B m d] 28)
    have b1 := below_new (w.alloc (.cells #[Value.bool s, Value.slice A n c, Value.slice B m d] 28)) (.cells #[Value.bool s', Value.slice A' n' c', Value.slice B' m' d'] 28)
    have b2 := below_new ((w.alloc (.cells #[Value.bool s, Value.slice A n c, Value.slice B m d] 28)).alloc (.cells #[Value.bool s', Value.slice A' n' c', Value.slice B' m' d'] 28)) (.cells #[Value.bool false, Value.slice none 0 0, Value.slice none 0 0] 28)
    have HW := Lib.hid (below_two (below_two b0 b1) b2)
    have HQ0 := Lib.hid (hx.below HW.out)
    have HQ1 := Lib.hid (hx'.below HW.out)
    have r0 := ((row3_new w 28 (.bool s) (.slice A n c) (.slice B m d)).below b1).below b2
    have r1 := (row3_new (w.alloc (.cells #[Value.bool s, Value.slice A n c, Value.slice B m d] 28)) 28 (.bool s') (.slice A' n' c') (.slice B' m' d')).below b2
    have rz := row3_new ((w.alloc (.cells #[Value.bool s, Value.slice A n c, Value.slice B m d] 28)).alloc (.cells #[Value.bool s', Value.slice A' n' c', Value.slice B' m' d'] 28)) 28 (.bool false) (.slice none 0 0) (.slice none 0 0)
    simp only [World.size_alloc] at r1 rz
    clear b0 b1 b2 hx hx'
    go_enter Tryz.func17, Tryz.ntmps17
    go_wp2_with fail
    generalize ((w.alloc (.cells #[Value.bool s, Value.slice A n c, Value.slice B m d] 28)).alloc (.cells #[Value.bool s', Value.slice A' n' c', Value.slice B' m' d'] 28)).alloc (.cells #[Value.bool false, Value.slice none 0 0, Value.slice none 0 0] 28) = w1 at *
    have HR0 := Lib.hid r0
    have HR1 := Lib.hid r1
    have HZ := Lib.hid rz
    have Hq : RowKit.Hid (w.heap.size ≤ w.heap.size + 1 + 1) := by show _ ≤ _; omega
    clear r0 r1 rz
    refine (rGood_c HQ0.out (by omega) false rfl).mono ?_
    rintro e w2 ⟨rfl, bn⟩
    replace HQ0 := Lib.hid (HQ0.out.below bn)
    replace HR0 := Lib.hid (HR0.out.below bn)
    replace HQ1 := Lib.hid (HQ1.out.below bn)
    replace HR1 := Lib.hid (HR1.out.below bn)
    replace HZ := Lib.hid (HZ.out.below bn)
    replace HW := Lib.hid (below_two HW.out bn)
    clear bn
    have e0 := HZ.out.c0
    have e1 := HZ.out.c1
    have e2 := HZ.out.c2
    have f0 := HZ.out.free 0
    have f1 := HZ.out.free 1
    have f2 := HZ.out.free 2
    have HF := Lib.hid (HZ.out.fill (.bool false) (.slice none 0 0) (.slice none 0 0))
    have HB := Lib.hid (below_fill3' HW.out Hq.out (.bool false) (.slice none 0 0) (.slice none 0 0))
    go_wp2
    refine bodyPost_ret (results_mixed rfl _ _ _ 28 #[.bool false, .slice none 0 0, .slice none 0 0] (0, 0) _ (.int .i64 1) rfl rfl HF.out Tryz.underlying28 rfl rat_size) rfl ?_
    exact ⟨none, 0, 0, none, 0, 0, rfl, qt_none _ 0 0, HB.out⟩
  | some p =>
    cases o' with
    | none =>
      have hR2 : ((none : Option Rat), (1 : Int)) = (r, e) := hR
      cases hR2
      clear hR
      have b0 := below_new w (.cells #[Value.bool s, Value.slice A n c, Value.slice B m d] 28)
      have b1 := below_new (w.alloc (.cells #[Value.bool s, Value.slice A n c, Value.slice B m d] 28)) (.cells #[Value.bool s', Value.slice A' n' c', Value.slice B' m' d'] 28)
      have b2 := below_new ((w.alloc (.cells #[Value.bool s, Value.slice A n c, Value.slice B m d] 28)).alloc (.cells #[Value.bool s', Value.slice A' n' c', Value.slice B' m' d'] 28)) (.cells #[Value.bool false, Value.slice none 0 0, Value.slice none 0 0] 28)
      have HW := Lib.hid (below_two (below_two b0 b1) b2)
      have HQ0 := Lib.hid (hx.below HW.out)
      have HQ1 := Lib.hid (hx'.below HW.out)
      have r0 := ((row3_new w 28 (.bool s) (.slice A n c) (.slice B m d)).below b1).below b2
      have r1 := (row3_new (w.alloc (.cells #[Value.bool s, Value.slice A n c, Value.slice B m d] 28)) 28 (.bool s') (.slice A' n' c') (.slice B' m' d')).below b2
      have rz := row3_new ((w.alloc (.cells #[Value.bool s, Value.slice A n c, Value.slice B m d] 28)).alloc (.cells #[Value.bool s', Value.slice A' n' c', Value.slice B' m' d'] 28)) 28 (.bool false) (.slice none 0 0) (.slice none 0 0)
      simp only [World.size_alloc] at r1 rz
      clear b0 b1 b2 hx hx'
      go_enter Tryz.func17, Tryz.ntmps17
      go_wp2_with fail
      generalize ((w.alloc (.cells #[Value.bool s, Value.slice A n c, Value.slice B m d] 28)).alloc (.cells #[Value.bool s', Value.slice A' n' c', Value.slice B' m' d'] 28)).alloc (.cells #[Value.bool false, Value.slice none 0 0, Value.slice none 0 0] 28) = w1 at *
      have HR0 := Lib.hid r0
      have HR1 := Lib.hid r1
      have HZ := Lib.hid rz
      have Hq : RowKit.Hid (w.heap.size ≤ w.heap.size + 1 + 1) := by show _ ≤ _; omega
      clear r0 r1 rz
      refine (rGood_c HQ0.out (by omega) true rfl).mono ?_
      rintro e w2 ⟨rfl, bn⟩
      replace HQ0 := Lib.hid (HQ0.out.below bn)
      replace HR0 := Lib.hid (HR0.out.below bn)
      replace HQ1 := Lib.hid (HQ1.out.below bn)
      replace HR1 := Lib.hid (HR1.out.below bn)
      replace HZ := Lib.hid (HZ.out.below bn)
      replace HW := Lib.hid (below_two HW.out bn)
      clear bn
      have c10 := HR1.out.c0
      have c11 := HR1.out.c1
      have c12 := HR1.out.c2
      go_wp2_with fail
      clear c10 c11 c12
      refine (rGood_c HQ1.out (by omega) false rfl).mono ?_
      rintro e w2 ⟨rfl, bn⟩
      replace HQ0 := Lib.hid (HQ0.out.below bn)
      replace HR0 := Lib.hid (HR0.out.below bn)
      replace HQ1 := Lib.hid (HQ1.out.below bn)
      replace HR1 := Lib.hid (HR1.out.below bn)
      replace HZ := Lib.hid (HZ.out.below bn)
      replace HW := Lib.hid (below_two HW.out bn)
      clear bn
      have e0 := HZ.out.c0
      have e1 := HZ.out.c1
      have e2 := HZ.out.c2
      have f0 := HZ.out.free 0
      have f1 := HZ.out.free 1
      have f2 := HZ.out.free 2
      have HF := Lib.hid (HZ.out.fill (.bool false) (.slice none 0 0) (.slice none 0 0))
      have HB := Lib.hid (below_fill3' HW.out Hq.out (.bool false) (.slice none 0 0) (.slice none 0 0))
      go_wp2
      refine bodyPost_ret (results_mixed rfl _ _ _ 28 #[.bool false, .slice none 0 0, .slice none 0 0] (0, 0) _ (.int .i64 1) rfl rfl HF.out Tryz.underlying28 rfl rat_size) rfl ?_
      exact ⟨none, 0, 0, none, 0, 0, rfl, qt_none _ 0 0, HB.out⟩
    | some q =>
      have HO : RowKit.Hid (ofR (p.num * q.num) (p.den * q.den) = (r, e)) := by
        show _ = _
        rw [← hR]; unfold ofR; rw [if_neg (Nat.mul_ne_zero p.den_nz q.den_nz)]
        show limR _ = limR _
        rw [mul_mk]
      clear hR
      have b0 := below_new w (.cells #[Value.bool s, Value.slice A n c, Value.slice B m d] 28)
      have b1 := below_new (w.alloc (.cells #[Value.bool s, Value.slice A n c, Value.slice B m d] 28)) (.cells #[Value.bool s', Value.slice A' n' c', Value.slice B' m' d'] 28)
      have b2 := below_new ((w.alloc (.cells #[Value.bool s, Value.slice A n c, Value.slice B m d] 28)).alloc (.cells #[Value.bool s', Value.slice A' n' c', Value.slice B' m' d'] 28)) (.cells #[Value.bool false, Value.slice none 0 0, Value.slice none 0 0] 28)
      have HW := Lib.hid (below_two (below_two b0 b1) b2)
      have HQ0 := Lib.hid (hx.below HW.out)
      have HQ1 := Lib.hid (hx'.below HW.out)
      have r0 := ((row3_new w 28 (.bool s) (.slice A n c) (.slice B m d)).below b1).below b2
      have r1 := (row3_new (w.alloc (.cells #[Value.bool s, Value.slice A n c, Value.slice B m d] 28)) 28 (.bool s') (.slice A' n' c') (.slice B' m' d')).below b2
      have rz := row3_new ((w.alloc (.cells #[Value.bool s, Value.slice A n c, Value.slice B m d] 28)).alloc (.cells #[Value.bool s', Value.slice A' n' c', Value.slice B' m' d'] 28)) 28 (.bool false) (.slice none 0 0) (.slice none 0 0)
      simp only [World.size_alloc] at r1 rz
      clear b0 b1 b2 hx hx'
      go_enter Tryz.func17, Tryz.ntmps17
      go_wp2_with fail
      generalize ((w.alloc (.cells #[Value.bool s, Value.slice A n c, Value.slice B m d] 28)).alloc (.cells #[Value.bool s', Value.slice A' n' c', Value.slice B' m' d'] 28)).alloc (.cells #[Value.bool false, Value.slice none 0 0, Value.slice none 0 0] 28) = w1 at *
      have HR0 := Lib.hid r0
      have HR1 := Lib.hid r1
      have HZ := Lib.hid rz
      have Hq : RowKit.Hid (w.heap.size ≤ w.heap.size + 1 + 1) := by show _ ≤ _; omega
      clear r0 r1 rz
      refine (rGood_c HQ0.out (by omega) true rfl).mono ?_
      rintro e w2 ⟨rfl, bn⟩
      replace HQ0 := Lib.hid (HQ0.out.below bn)
      replace HR0 := Lib.hid (HR0.out.below bn)
      replace HQ1 := Lib.hid (HQ1.out.below bn)
      replace HR1 := Lib.hid (HR1.out.below bn)
      replace HZ := Lib.hid (HZ.out.below bn)
      replace HW := Lib.hid (below_two HW.out bn)
      clear bn
      have c10 := HR1.out.c0
      have c11 := HR1.out.c1
      have c12 := HR1.out.c2
      go_wp2_with fail
      clear c10 c11 c12
      refine (rGood_c HQ1.out (by omega) true rfl).mono ?_
      rintro e wS ⟨rfl, bn⟩
      replace HQ0 := Lib.hid (HQ0.out.below bn)
      replace HR0 := Lib.hid (HR0.out.below bn)
      replace HQ1 := Lib.hid (HQ1.out.below bn)
      replace HR1 := Lib.hid (HR1.out.below bn)
      replace HZ := Lib.hid (HZ.out.below bn)
      replace HW := Lib.hid (below_two HW.out bn)
      clear bn
      have HX := Lib.hid HQ0.out.some.2.2.2.2.1
      have HY := Lib.hid HQ0.out.some.2.2.2.2.2.1
      have HX1 := Lib.hid HQ1.out.some.2.2.2.2.1
      have HY1 := Lib.hid HQ1.out.some.2.2.2.2.2.1
      go_wp2_with fail
      refine region_free 13 2 [15, 16, 17, 18, 19, 20, 21, 22, 23, 24, 25, 26, 27] ?aF8 (fun wx => Below wS.heap.size wS wx) (fun k vv wx => match k with
          | 0 => vv = .pointer (some ⟨w.heap.size, 0, none⟩)
          | 1 => vv = .agg #[.bool s, .slice A n c]
          | 2 => vv = .pointer (some ⟨w.heap.size + 1, 0, none⟩)
          | 3 => vv = .agg #[.bool s', .slice A' n' c']
          | 4 => ∃ (e0 : Option Addr) (e1 : Nat) (e2 : Nat), vv = .agg #[.bool (sg (p.num * q.num)), .slice e0 e1 e2] ∧ ZZ wx (sg (p.num * q.num)) e0 e1 e2 (limbs (p.num * q.num).natAbs) (p.num * q.num) 128
          | 5 => vv = .pointer (some ⟨w.heap.size, 2, none⟩)
          | 6 => vv = .slice B m d
          | 7 => vv = .pointer (some ⟨w.heap.size + 1, 2, none⟩)
          | 8 => vv = .slice B' m' d'
          | 9 => ∃ (e0 : Option Addr) (e1 : Nat) (e2 : Nat), vv = .slice e0 e1 e2 ∧ NN wx e0 e1 e2 (limbs (p.den * q.den)) (p.den * q.den) 128
          | 10 => ∃ (e0 : Option Addr) (e1 : Nat) (e2 : Nat) (e3 : Option Addr) (e4 : Nat) (e5 : Nat), vv = .tuple #[.agg #[.bool (sg (oTop r)), .slice e0 e1 e2, .slice e3 e4 e5], .int .i64 e] ∧ QT wx e0 e1 e2 e3 e4 e5 r
          | 11 => ∃ (e0 : Option Addr) (e1 : Nat) (e2 : Nat) (e3 : Option Addr) (e4 : Nat) (e5 : Nat), vv = .agg #[.bool (sg (oTop r)), .slice e0 e1 e2, .slice e3 e4 e5] ∧ QT wx e0 e1 e2 e3 e4 e5 r
          | _ => vv = .int .i64 e)
        (fun k => false) (by kernel_rfl) ?haF8 rfl (by kernel_rfl) (by kernel_rfl) (fun _ _ _ _ _ h => h) ?hSb8 ?hPb8 ?hS8 ?hop8 ?hfin8
      case haF8 =>
        intro vals
        simp only [fillAll, List.getElem?_cons_zero, List.getElem?_cons_succ, Act.put, List.setIfInBounds_toArray, List.set_cons_zero, List.set_cons_succ]
        exact rfl
      case hSb8 => exact fun wx w2 hb hS => below_two hS hb
      case hPb8 =>
        intro k v wa wb hb h
        match k, h with
        | 0, h => exact h
        | 1, h => exact h
        | 2, h => exact h
        | 3, h => exact h
        | 4, ⟨e0, e1, e2, h1, g0⟩ => exact ⟨e0, e1, e2, h1, g0.below hb⟩
        | 5, h => exact h
        | 6, h => exact h
        | 7, h => exact h
        | 8, h => exact h
        | 9, ⟨e0, e1, e2, h1, g0⟩ => exact ⟨e0, e1, e2, h1, g0.below hb⟩
        | 10, ⟨e0, e1, e2, e3, e4, e5, h1, g0⟩ => exact ⟨e0, e1, e2, e3, e4, e5, h1, g0.below hb⟩
        | 11, ⟨e0, e1, e2, e3, e4, e5, h1, g0⟩ => exact ⟨e0, e1, e2, e3, e4, e5, h1, g0.below hb⟩
        | _ + 12, h => exact h
      case hS8 => exact (Below.refl _ _).drew
      case hop8 =>
        refine .cons (k := 0) ?_ (.cons (k := 1) ?_ (.cons (k := 2) ?_ (.cons (k := 3) ?_ (.cons (k := 4) ?_ (.cons (k := 5) ?_ (.cons (k := 6) ?_ (.cons (k := 7) ?_ (.cons (k := 8) ?_ (.cons (k := 9) ?_ (.cons (k := 10) ?_ (.cons (k := 11) ?_ (.cons (k := 12) ?_ (.nil)))))))))))))
        all_goals intro vals wr hS hd KC hK
        all_goals (show Oper.wp _ _ _ _ _ _; dsimp only)
        · go_simp
          refine hK _ _ rfl (Below.refl _ _) (by first | rfl | simp) (fun h => by cases h)
        · have d0 : vals 0 = _ := hd 0 (by decide +kernel)
          rw [d0]
          have z0 := (HR0.out.below hS).c0
          have z1 := (HR0.out.below hS).c1
          go_simp
          refine hK _ _ rfl (Below.refl _ _) (by first | rfl | simp) (fun h => by cases h)
        · go_simp
          refine hK _ _ rfl (Below.refl _ _) (by first | rfl | simp) (fun h => by cases h)
        · have d2 : vals 2 = _ := hd 2 (by decide +kernel)
          rw [d2]
          have z0 := (HR1.out.below hS).c0
          have z1 := (HR1.out.below hS).c1
          go_simp
          refine hK _ _ rfl (Below.refl _ _) (by first | rfl | simp) (fun h => by cases h)
        · have d1 : vals 1 = _ := hd 1 (by decide +kernel)
          have d3 : vals 3 = _ := hd 3 (by decide +kernel)
          rw [d1, d3]
          go_simp
          go_at_call 40
          with_reducible refine (wMul_c (HX.out.below hS) (HX1.out.below hS) 128 (by decide) (by decide) (by decide) (p.num * q.num) rfl).mono ?_
          rintro e w2 ⟨r0, r1, r2, rfl, f0, bn_r⟩
          refine hK _ _ rfl bn_r ⟨_, _, _, rfl, f0⟩ (fun h => by cases h)
        · go_simp
          refine hK _ _ rfl (Below.refl _ _) (by first | rfl | simp) (fun h => by cases h)
        · have d5 : vals 5 = _ := hd 5 (by decide +kernel)
          rw [d5]
          have z0 := (HR0.out.below hS).c2
          go_simp
          refine hK _ _ rfl (Below.refl _ _) (by first | rfl | simp) (fun h => by cases h)
        · go_simp
          refine hK _ _ rfl (Below.refl _ _) (by first | rfl | simp) (fun h => by cases h)
        · have d7 : vals 7 = _ := hd 7 (by decide +kernel)
          rw [d7]
          have z0 := (HR1.out.below hS).c2
          go_simp
          refine hK _ _ rfl (Below.refl _ _) (by first | rfl | simp) (fun h => by cases h)
        · have d6 : vals 6 = _ := hd 6 (by decide +kernel)
          have d8 : vals 8 = _ := hd 8 (by decide +kernel)
          rw [d6, d8]
          go_simp
          go_at_call 41
          with_reducible refine (mulOf_c (HY.out.below hS) (HY1.out.below hS) 128 (by decide) (by decide) (by decide)).mono ?_
          rintro e w2 ⟨r0, r1, r2, rfl, f0, bn_r⟩
          refine hK _ _ rfl bn_r ⟨_, _, _, rfl, f0⟩ (fun h => by cases h)
        · obtain ⟨A_4_0, n_4_1, n_4_2, d4, h_4_0⟩ := hd 4 (by decide +kernel)
          obtain ⟨A_9_0, n_9_1, n_9_2, d9, h_9_0⟩ := hd 9 (by decide +kernel)
          rw [d4, d9]
          go_simp
          go_at_call 39
          with_reducible refine (rOf_c h_4_0 h_9_0 (by decide) (by decide) r e HO.out).mono ?_
          rintro e w2 ⟨r0, r1, r2, r3, r4, r5, rfl, f0, bn_r⟩
          refine hK _ _ rfl bn_r ⟨_, _, _, _, _, _, rfl, f0⟩ (fun h => by cases h)
        · obtain ⟨A_10_0, n_10_1, n_10_2, A_10_3, n_10_4, n_10_5, d10, h_10_0⟩ := hd 10 (by decide +kernel)
          rw [d10]
          go_simp
          refine hK _ _ rfl (Below.refl _ _) ⟨_, _, _, _, _, _, rfl, h_10_0⟩ (fun h => by cases h)
        · obtain ⟨A_10_0, n_10_1, n_10_2, A_10_3, n_10_4, n_10_5, d10, h_10_0⟩ := hd 10 (by decide +kernel)
          rw [d10]
          go_simp
          refine hK _ _ rfl (Below.refl _ _) rfl (fun h => by cases h)
      case hfin8 =>
        intro vals wr hS hP hne
        obtain ⟨A_11_0, n_11_1, n_11_2, A_11_3, n_11_4, n_11_5, ez_11, h_11_0⟩ := hP 11 (by decide)
        have ez_12 : vals 12 = _ := hP 12 (by decide)
        have hZ3 := HZ.out.below hS
        have hNo := hZ3.noLimb (by intro v e; cases e) (by intro v e; cases e) (by intro v e; cases e)
        have e0 := hZ3.c0
        have e1 := hZ3.c1
        have e2 := hZ3.c2
        have f0 := hZ3.free 0
        have f1 := hZ3.free 1
        have f2 := hZ3.free 2
        have HF := Lib.hid (hZ3.fill (.bool (sg (oTop r))) (.slice A_11_0 n_11_1 n_11_2) (.slice A_11_3 n_11_4 n_11_5))
        have HP := Lib.hid (QQ.fillR3 h_11_0 hNo (.bool (sg (oTop r))) (.slice A_11_0 n_11_1 n_11_2) (.slice A_11_3 n_11_4 n_11_5))
        have HB := Lib.hid (below_fill3' (below_two HW.out hS) Hq.out (.bool (sg (oTop r))) (.slice A_11_0 n_11_1 n_11_2) (.slice A_11_3 n_11_4 n_11_5))
        try dsimp only
        rw [ez_11, ez_12]
        refine wpAny_ready (rs := [13]) (by kernel_rfl) (by simp) (AllReady.cons rfl (fun KC hK => ?_) AllReady.nil)
        go_simp
        refine hK _ _ ?_
        clear hK KC
        refine wpAny_ready (rs := [14]) (by kernel_rfl) (by simp) (AllReady.cons rfl (fun KC hK => ?_) AllReady.nil)
        go_simp
        refine hK _ _ ?_
        clear hK KC
        refine wpAny_done (by kernel_rfl) ?_ _
        go_wp2
        refine bodyPost_ret (results_mixed rfl _ _ _ 28 #[.bool (sg (oTop r)), .slice A_11_0 n_11_1 n_11_2, .slice A_11_3 n_11_4 n_11_5] (0, 0) _ (.int .i64 e) rfl rfl HF.out Tryz.underlying28 rfl rat_size) rfl ?_
        exact ⟨A_11_0, n_11_1, n_11_2, A_11_3, n_11_4, n_11_5, rfl, HP.out, HB.out⟩

end
end Go.Proofs.YtjpoolddgocbbaaGreatDoor

/- Of any two numbers: a literal's number is its whole part's and its places'. Condition: the listed tables. -/
namespace Go.Proofs.YtjpoolddgocbbaaGreatDoor.lawLiteralParts
open Go.ChangeShapes Go.WideShapes Go.ChangeAt Go.RowKit Limb
set_option linter.unusedVariables false

set_option maxHeartbeats 4000000 in
set_option maxRecDepth 100000 in
theorem walk (v_a : Int) (v_b : Int) (w : World) (f_a : (Lit.int .u32 v_a).wf = true) (f_b : (Lit.int .u32 v_b).wf = true) (T : LTab w) :
    Calls Tryz.prog 6 #[.int .u32 v_a, .int .u32 v_b] w fun e w' => e = .returned (.bool true) ∧ Below w.heap.size w w' := by
  have HTab := Lib.hid T
  clear T
  have hw_a : 0 ≤ v_a ∧ v_a ≤ 4294967295 := by
    have e1 : IntKind.u32.min = 0 := rfl
    have e2 : IntKind.u32.max = 4294967295 := rfl
    simp only [Lit.wf, Bool.and_eq_true, decide_eq_true_eq] at f_a
    omega
  obtain ⟨A, eA⟩ : ∃ N : Nat, v_a = (N : Int) := ⟨v_a.toNat, by omega⟩
  subst eA
  have bA : A < 4294967296 := by omega
  clear hw_a f_a
  have hw_b : 0 ≤ v_b ∧ v_b ≤ 4294967295 := by
    have e1 : IntKind.u32.min = 0 := rfl
    have e2 : IntKind.u32.max = 4294967295 := rfl
    simp only [Lit.wf, Bool.and_eq_true, decide_eq_true_eq] at f_b
    omega
  obtain ⟨B, eB⟩ : ∃ N : Nat, v_b = (N : Int) := ⟨v_b.toNat, by omega⟩
  subst eB
  have bB : B < 4294967296 := by omega
  clear hw_b f_b
  obtain ⟨X, Z, F0, F1, F2, F3, F4, F5⟩ := parts_facts bA bB
  generalize hz : ((A : Nat) : Rat) = z at F1 F3 F4 F5
  clear hz
  obtain ⟨SA, hSA⟩ : ∃ S, strOf (decT A) = S := ⟨_, rfl⟩
  have zSA : SA.size ≤ 10 := by rw [← hSA, size_strOf]; exact dec32_len bA
  have BSA : RowKit.Hid (bytesOf SA = decT A) := by show _ = _; rw [← hSA]; exact bytesOf_strOf (decT_bytes A)
  have HSA := Lib.hid hSA
  clear hSA
  obtain ⟨SB, hSB⟩ : ∃ S, strOf (decT B) = S := ⟨_, rfl⟩
  have zSB : SB.size ≤ 10 := by rw [← hSB, size_strOf]; exact dec32_len bB
  have BSB : RowKit.Hid (bytesOf SB = decT B) := by show _ = _; rw [← hSB]; exact bytesOf_strOf (decT_bytes B)
  have HSB := Lib.hid hSB
  clear hSB
  have G_x : RowKit.Hid (litR (bytesOf (SA ++ ⟨#[46]⟩ ++ SB)) = (some X, 0)) := by
    show _ = _
    rw [bytesOf_append, bytesOf_append, BSA.out, show bytesOf ⟨#[46]⟩ = [46] from rfl, BSB.out, ← F0]
    all_goals simp
  have Z_x : RowKit.Hid ((SA ++ ⟨#[46]⟩ ++ SB).size ≤ 9223372036854775807) := by
    show _ ≤ _
    rw [ByteArray.size_append, ByteArray.size_append]
    show SA.size + 1 + SB.size ≤ _
    omega
  have G_y : RowKit.Hid (litR (bytesOf (SA)) = (some z, 0)) := by
    show _ = _
    rw [BSA.out, ← F1]
  have Z_y : RowKit.Hid ((SA).size ≤ 9223372036854775807) := by
    show _ ≤ _
    show SA.size ≤ _
    omega
  have G_z : RowKit.Hid (litR (bytesOf (⟨#[48, 46]⟩ ++ SB)) = (some Z, 0)) := by
    show _ = _
    rw [bytesOf_append, show bytesOf ⟨#[48, 46]⟩ = [48, 46] from rfl, BSB.out, ← F2]
    all_goals simp
  have Z_z : RowKit.Hid ((⟨#[48, 46]⟩ ++ SB).size ≤ 9223372036854775807) := by
    show _ ≤ _
    rw [ByteArray.size_append]
    show 2 + SB.size ≤ _
    omega
  have G_w : RowKit.Hid (litR (bytesOf (SA ++ ⟨#[101, 48]⟩)) = (some z, 0)) := by
    show _ = _
    rw [bytesOf_append, BSA.out, show bytesOf ⟨#[101, 48]⟩ = [101, 48] from rfl, ← F4]
    all_goals simp
  have Z_w : RowKit.Hid ((SA ++ ⟨#[101, 48]⟩).size ≤ 9223372036854775807) := by
    show _ ≤ _
    rw [ByteArray.size_append]
    show SA.size + 2 ≤ _
    omega
  have F3 := Lib.hid F3
  have F5 := Lib.hid F5
  clear F0 F1 F2 F4
  have bw := bel_refl w
  go_enter Tryz.func6, Tryz.ntmps6
  go_wp2_with fail
  refine (dec_c A (by omega) _ rfl SA HSA.out _).mono ?_
  rintro e w1 ⟨rfl, bn⟩
  replace HTab := Lib.hid (HTab.out.below bn)
  replace bw := below_two bw bn
  clear bn
  go_wp2_with fail
  refine (dec_c B (by omega) _ rfl SB HSB.out _).mono ?_
  rintro e w2 ⟨rfl, bn⟩
  replace HTab := Lib.hid (HTab.out.below bn)
  replace bw := below_two bw bn
  clear bn
  go_wp2_with fail
  refine (litParse_c _ Z_x.out _ HTab.out _ _ G_x.out).mono ?_
  rintro e w3 ⟨A_x, n_x, c_x, B_x, m_x, d_x, rfl, h_x, bn⟩
  replace HTab := Lib.hid (HTab.out.below bn)
  replace bw := below_two bw bn
  clear bn
  have h_rx := row3_new w3 28 (.bool (sg (oTop (some X)))) (.slice A_x n_x c_x) (.slice B_x m_x d_x)
  have bn := below_new w3 (.cells #[Value.bool (sg (oTop (some X))), Value.slice A_x n_x c_x, Value.slice B_x m_x d_x] 28)
  replace h_x := h_x.below bn
  replace HTab := Lib.hid (HTab.out.below bn)
  replace bw := below_two bw bn
  clear bn
  go_wp2_with fail
  generalize w3.alloc (.cells #[Value.bool (sg (oTop (some X))), Value.slice A_x n_x c_x, Value.slice B_x m_x d_x] 28) = w4 at *
  obtain ⟨q_x, eg⟩ : ∃ g, g = w3.heap.size := ⟨_, rfl⟩
  rw [← eg] at h_rx ⊢
  clear eg
  refine (litParse_c _ Z_y.out _ HTab.out _ _ G_y.out).mono ?_
  rintro e w5 ⟨A_y, n_y, c_y, B_y, m_y, d_y, rfl, h_y, bn⟩
  replace h_x := h_x.below bn
  replace h_rx := h_rx.below bn
  replace HTab := Lib.hid (HTab.out.below bn)
  replace bw := below_two bw bn
  clear bn
  have h_ry := row3_new w5 28 (.bool (sg (oTop (some z)))) (.slice A_y n_y c_y) (.slice B_y m_y d_y)
  have bn := below_new w5 (.cells #[Value.bool (sg (oTop (some z))), Value.slice A_y n_y c_y, Value.slice B_y m_y d_y] 28)
  replace h_x := h_x.below bn
  replace h_rx := h_rx.below bn
  replace h_y := h_y.below bn
  replace HTab := Lib.hid (HTab.out.below bn)
  replace bw := below_two bw bn
  clear bn
  go_wp2_with fail
  generalize w5.alloc (.cells #[Value.bool (sg (oTop (some z))), Value.slice A_y n_y c_y, Value.slice B_y m_y d_y] 28) = w6 at *
  obtain ⟨q_y, eg⟩ : ∃ g, g = w5.heap.size := ⟨_, rfl⟩
  rw [← eg] at h_ry ⊢
  clear eg
  refine (litParse_c _ Z_z.out _ HTab.out _ _ G_z.out).mono ?_
  rintro e w7 ⟨A_z, n_z, c_z, B_z, m_z, d_z, rfl, h_z, bn⟩
  replace h_x := h_x.below bn
  replace h_rx := h_rx.below bn
  replace h_y := h_y.below bn
  replace h_ry := h_ry.below bn
  replace HTab := Lib.hid (HTab.out.below bn)
  replace bw := below_two bw bn
  clear bn
  have h_rz := row3_new w7 28 (.bool (sg (oTop (some Z)))) (.slice A_z n_z c_z) (.slice B_z m_z d_z)
  have bn := below_new w7 (.cells #[Value.bool (sg (oTop (some Z))), Value.slice A_z n_z c_z, Value.slice B_z m_z d_z] 28)
  replace h_x := h_x.below bn
  replace h_rx := h_rx.below bn
  replace h_y := h_y.below bn
  replace h_ry := h_ry.below bn
  replace h_z := h_z.below bn
  replace HTab := Lib.hid (HTab.out.below bn)
  replace bw := below_two bw bn
  clear bn
  have c_y0 := h_ry.c0
  have c_y1 := h_ry.c1
  have c_y2 := h_ry.c2
  have c_z0 := h_rz.c0
  have c_z1 := h_rz.c1
  have c_z2 := h_rz.c2
  go_wp2_with fail
  clear c_y0 c_y1 c_y2 c_z0 c_z1 c_z2
  generalize w7.alloc (.cells #[Value.bool (sg (oTop (some Z))), Value.slice A_z n_z c_z, Value.slice B_z m_z d_z] 28) = w8 at *
  obtain ⟨q_z, eg⟩ : ∃ g, g = w7.heap.size := ⟨_, rfl⟩
  rw [← eg] at h_rz ⊢
  clear eg
  refine (rAdd_c h_y h_z (by decide) (by decide) _ _ F3.out).mono ?_
  rintro e w9 ⟨A_s, n_s, c_s, B_s, m_s, d_s, rfl, h_s, bn⟩
  replace h_x := h_x.below bn
  replace h_rx := h_rx.below bn
  replace h_y := h_y.below bn
  replace h_ry := h_ry.below bn
  replace h_z := h_z.below bn
  replace h_rz := h_rz.below bn
  replace HTab := Lib.hid (HTab.out.below bn)
  replace bw := below_two bw bn
  clear bn
  have h_rs := row3_new w9 28 (.bool (sg (oTop (some X)))) (.slice A_s n_s c_s) (.slice B_s m_s d_s)
  have bn := below_new w9 (.cells #[Value.bool (sg (oTop (some X))), Value.slice A_s n_s c_s, Value.slice B_s m_s d_s] 28)
  replace h_x := h_x.below bn
  replace h_rx := h_rx.below bn
  replace h_y := h_y.below bn
  replace h_ry := h_ry.below bn
  replace h_z := h_z.below bn
  replace h_rz := h_rz.below bn
  replace h_s := h_s.below bn
  replace HTab := Lib.hid (HTab.out.below bn)
  replace bw := below_two bw bn
  clear bn
  go_wp2_with fail
  generalize w9.alloc (.cells #[Value.bool (sg (oTop (some X))), Value.slice A_s n_s c_s, Value.slice B_s m_s d_s] 28) = w10 at *
  obtain ⟨q_s, eg⟩ : ∃ g, g = w9.heap.size := ⟨_, rfl⟩
  rw [← eg] at h_rs ⊢
  clear eg
  refine (litParse_c _ Z_w.out _ HTab.out _ _ G_w.out).mono ?_
  rintro e w11 ⟨A_w, n_w, c_w, B_w, m_w, d_w, rfl, h_w, bn⟩
  replace h_x := h_x.below bn
  replace h_rx := h_rx.below bn
  replace h_y := h_y.below bn
  replace h_ry := h_ry.below bn
  replace h_z := h_z.below bn
  replace h_rz := h_rz.below bn
  replace h_s := h_s.below bn
  replace h_rs := h_rs.below bn
  replace HTab := Lib.hid (HTab.out.below bn)
  replace bw := below_two bw bn
  clear bn
  have h_rw := row3_new w11 28 (.bool (sg (oTop (some z)))) (.slice A_w n_w c_w) (.slice B_w m_w d_w)
  have bn := below_new w11 (.cells #[Value.bool (sg (oTop (some z))), Value.slice A_w n_w c_w, Value.slice B_w m_w d_w] 28)
  replace h_x := h_x.below bn
  replace h_rx := h_rx.below bn
  replace h_y := h_y.below bn
  replace h_ry := h_ry.below bn
  replace h_z := h_z.below bn
  replace h_rz := h_rz.below bn
  replace h_s := h_s.below bn
  replace h_rs := h_rs.below bn
  replace h_w := h_w.below bn
  replace HTab := Lib.hid (HTab.out.below bn)
  replace bw := below_two bw bn
  clear bn
  go_wp2
  generalize w11.alloc (.cells #[Value.bool (sg (oTop (some z))), Value.slice A_w n_w c_w, Value.slice B_w m_w d_w] 28) = w12 at *
  obtain ⟨q_w, eg⟩ : ∃ g, g = w11.heap.size := ⟨_, rfl⟩
  rw [← eg] at h_rw ⊢
  clear eg
  generalize w12 = wS at *
  refine region_freeg 38 1 [54, 55, 56, 57, 58, 59, 60, 61, 62, 63, 64, 65, 66, 67, 68, 69, 70, 71, 72, 73, 74, 75, 76, 77, 78, 79, 80, 81, 82, 83, 84, 85, 86, 87, 88, 89, 90, 91] ?aF18 (fun wx => Below wS.heap.size wS wx) (fun k vv wx => match k with
      | 0 => vv = .int .i64 0
      | 1 => vv = .bool true
      | 2 => vv = .bool true
      | 3 => vv = .int .i64 0
      | 4 => vv = .bool true
      | 5 => vv = .bool true
      | 6 => vv = .bool true
      | 7 => vv = .int .i64 0
      | 8 => vv = .bool true
      | 9 => vv = .bool true
      | 10 => vv = .bool true
      | 11 => vv = .int .i64 0
      | 12 => vv = .bool true
      | 13 => vv = .bool true
      | 14 => vv = .bool true
      | 15 => vv = .int .i64 0
      | 16 => vv = .bool true
      | 17 => vv = .bool true
      | 18 => vv = .bool true
      | 19 => vv = .agg #[.bool (sg (oTop (some X))), .slice A_x n_x c_x, .slice B_x m_x d_x]
      | 20 => vv = .agg #[.bool (sg (oTop (some X))), .slice A_s n_s c_s, .slice B_s m_s d_s]
      | 21 => vv = .bool true
      | 22 => vv = .bool true
      | 23 => vv = .bool true
      | 24 => vv = .agg #[.bool (sg (oTop (some z))), .slice A_y n_y c_y, .slice B_y m_y d_y]
      | 25 => vv = .int .u32 (A : Int)
      | 26 => vv = .int .i64 (A : Int)
      | 27 => ∃ (e0 : Option Addr) (e1 : Nat) (e2 : Nat) (e3 : Option Addr) (e4 : Nat) (e5 : Nat), vv = .agg #[.bool (sg (oTop (some z))), .slice e0 e1 e2, .slice e3 e4 e5] ∧ QT wx e0 e1 e2 e3 e4 e5 (some z)
      | 28 => vv = .bool true
      | 29 => vv = .bool true
      | 30 => vv = .bool true
      | 31 => vv = .agg #[.bool (sg (oTop (some z))), .slice A_w n_w c_w, .slice B_w m_w d_w]
      | 32 => vv = .agg #[.bool (sg (oTop (some z))), .slice A_y n_y c_y, .slice B_y m_y d_y]
      | 33 => vv = .bool true
      | 34 => vv = .bool true
      | 35 => vv = .bool true
      | 36 => vv = .bool true
      | _ => vv = .bool true)
    (fun k => false) (by kernel_rfl) ?haF18 rfl (by kernel_rfl) (by kernel_rfl) (fun _ _ _ _ _ h => h) ?hSb18 ?hPb18 ?hS18 ?hop18 ?hfin18
  case haF18 =>
    intro vals
    simp only [fillAll, List.getElem?_cons_zero, List.getElem?_cons_succ, Act.put, List.setIfInBounds_toArray, List.set_cons_zero, List.set_cons_succ]
    exact rfl
  case hSb18 => exact fun wx w2 hb hS => below_two hS hb
  case hPb18 =>
    intro k v wa wb hb h
    match k, h with
    | 0, h => exact h
    | 1, h => exact h
    | 2, h => exact h
    | 3, h => exact h
    | 4, h => exact h
    | 5, h => exact h
    | 6, h => exact h
    | 7, h => exact h
    | 8, h => exact h
    | 9, h => exact h
    | 10, h => exact h
    | 11, h => exact h
    | 12, h => exact h
    | 13, h => exact h
    | 14, h => exact h
    | 15, h => exact h
    | 16, h => exact h
    | 17, h => exact h
    | 18, h => exact h
    | 19, h => exact h
    | 20, h => exact h
    | 21, h => exact h
    | 22, h => exact h
    | 23, h => exact h
    | 24, h => exact h
    | 25, h => exact h
    | 26, h => exact h
    | 27, ⟨e0, e1, e2, e3, e4, e5, h1, g0⟩ => exact ⟨e0, e1, e2, e3, e4, e5, h1, g0.below hb⟩
    | 28, h => exact h
    | 29, h => exact h
    | 30, h => exact h
    | 31, h => exact h
    | 32, h => exact h
    | 33, h => exact h
    | 34, h => exact h
    | 35, h => exact h
    | 36, h => exact h
    | _ + 37, h => exact h
  case hS18 => exact (Below.refl _ _).drew
  case hop18 =>
    refine .cons (k := 0) (.plain rfl ?_) (.cons (k := 1) (.plain rfl ?_) (.cons (k := 2) (.plain rfl ?_) (.cons (k := 3) (.yes (fun vals wr hS hd g b e => by cases e; exact hd 2 (by decide +kernel)) ?_) (.cons (k := 4) (.yes (fun vals wr hS hd g b e => by cases e; exact hd 2 (by decide +kernel)) ?_) (.cons (k := 5) (.plain rfl ?_) (.cons (k := 6) (.plain rfl ?_) (.cons (k := 7) (.yes (fun vals wr hS hd g b e => by cases e; exact hd 6 (by decide +kernel)) ?_) (.cons (k := 8) (.yes (fun vals wr hS hd g b e => by cases e; exact hd 6 (by decide +kernel)) ?_) (.cons (k := 9) (.plain rfl ?_) (.cons (k := 10) (.plain rfl ?_) (.cons (k := 11) (.yes (fun vals wr hS hd g b e => by cases e; exact hd 10 (by decide +kernel)) ?_) (.cons (k := 12) (.yes (fun vals wr hS hd g b e => by cases e; exact hd 10 (by decide +kernel)) ?_) (.cons (k := 13) (.plain rfl ?_) (.cons (k := 14) (.plain rfl ?_) (.cons (k := 15) (.yes (fun vals wr hS hd g b e => by cases e; exact hd 14 (by decide +kernel)) ?_) (.cons (k := 16) (.yes (fun vals wr hS hd g b e => by cases e; exact hd 14 (by decide +kernel)) ?_) (.cons (k := 17) (.plain rfl ?_) (.cons (k := 18) (.plain rfl ?_) (.cons (k := 19) (.yes (fun vals wr hS hd g b e => by cases e; exact hd 18 (by decide +kernel)) ?_) (.cons (k := 20) (.yes (fun vals wr hS hd g b e => by cases e; exact hd 18 (by decide +kernel)) ?_) (.cons (k := 21) (.yes (fun vals wr hS hd g b e => by cases e; exact hd 18 (by decide +kernel)) ?_) (.cons (k := 22) (.plain rfl ?_) (.cons (k := 23) (.plain rfl ?_) (.cons (k := 24) (.yes (fun vals wr hS hd g b e => by cases e; exact hd 23 (by decide +kernel)) ?_) (.cons (k := 25) (.yes (fun vals wr hS hd g b e => by cases e; exact hd 23 (by decide +kernel)) ?_) (.cons (k := 26) (.yes (fun vals wr hS hd g b e => by cases e; exact hd 23 (by decide +kernel)) ?_) (.cons (k := 27) (.yes (fun vals wr hS hd g b e => by cases e; exact hd 23 (by decide +kernel)) ?_) (.cons (k := 28) (.yes (fun vals wr hS hd g b e => by cases e; exact hd 23 (by decide +kernel)) ?_) (.cons (k := 29) (.plain rfl ?_) (.cons (k := 30) (.plain rfl ?_) (.cons (k := 31) (.yes (fun vals wr hS hd g b e => by cases e; exact hd 30 (by decide +kernel)) ?_) (.cons (k := 32) (.yes (fun vals wr hS hd g b e => by cases e; exact hd 30 (by decide +kernel)) ?_) (.cons (k := 33) (.yes (fun vals wr hS hd g b e => by cases e; exact hd 30 (by decide +kernel)) ?_) (.cons (k := 34) (.plain rfl ?_) (.cons (k := 35) (.plain rfl ?_) (.cons (k := 36) (.yes (fun vals wr hS hd g b e => by cases e; exact hd 35 (by decide +kernel)) ?_) (.cons (k := 37) (.plain rfl ?_) (.nil))))))))))))))))))))))))))))))))))))))
    all_goals intro vals wr hS hd KC hK
    all_goals (show Oper.wp _ _ _ _ _ _; dsimp only)
    · go_simp
      refine hK _ _ rfl (Below.refl _ _) (by first | rfl | simp) (fun h => by cases h)
    · have d0 : vals 0 = _ := hd 0 (by decide +kernel)
      rw [d0]
      go_simp
      refine hK _ _ rfl (Below.refl _ _) (by first | rfl | simp) (fun h => by cases h)
    · have d1 : vals 1 = _ := hd 1 (by decide +kernel)
      rw [d1]
      go_simp
      refine hK _ _ rfl (Below.refl _ _) (by first | rfl | simp) (fun h => by cases h)
    · go_simp
      refine hK _ _ rfl (Below.refl _ _) (by first | rfl | simp) (fun h => by cases h)
    · have d3 : vals 3 = _ := hd 3 (by decide +kernel)
      rw [d3]
      go_simp
      refine hK _ _ rfl (Below.refl _ _) (by first | rfl | simp) (fun h => by cases h)
    · have d2 : vals 2 = _ := hd 2 (by decide +kernel)
      have d4 : vals 4 = _ := hd 4 (by decide +kernel)
      rw [d2, d4]
      go_simp
      refine hK _ _ rfl (Below.refl _ _) (by first | rfl | simp) (fun h => by cases h)
    · have d5 : vals 5 = _ := hd 5 (by decide +kernel)
      rw [d5]
      go_simp
      refine hK _ _ rfl (Below.refl _ _) (by first | rfl | simp) (fun h => by cases h)
    · go_simp
      refine hK _ _ rfl (Below.refl _ _) (by first | rfl | simp) (fun h => by cases h)
    · have d7 : vals 7 = _ := hd 7 (by decide +kernel)
      rw [d7]
      go_simp
      refine hK _ _ rfl (Below.refl _ _) (by first | rfl | simp) (fun h => by cases h)
    · have d6 : vals 6 = _ := hd 6 (by decide +kernel)
      have d8 : vals 8 = _ := hd 8 (by decide +kernel)
      rw [d6, d8]
      go_simp
      refine hK _ _ rfl (Below.refl _ _) (by first | rfl | simp) (fun h => by cases h)
    · have d9 : vals 9 = _ := hd 9 (by decide +kernel)
      rw [d9]
      go_simp
      refine hK _ _ rfl (Below.refl _ _) (by first | rfl | simp) (fun h => by cases h)
    · go_simp
      refine hK _ _ rfl (Below.refl _ _) (by first | rfl | simp) (fun h => by cases h)
    · have d11 : vals 11 = _ := hd 11 (by decide +kernel)
      rw [d11]
      go_simp
      refine hK _ _ rfl (Below.refl _ _) (by first | rfl | simp) (fun h => by cases h)
    · have d10 : vals 10 = _ := hd 10 (by decide +kernel)
      have d12 : vals 12 = _ := hd 12 (by decide +kernel)
      rw [d10, d12]
      go_simp
      refine hK _ _ rfl (Below.refl _ _) (by first | rfl | simp) (fun h => by cases h)
    · have d13 : vals 13 = _ := hd 13 (by decide +kernel)
      rw [d13]
      go_simp
      refine hK _ _ rfl (Below.refl _ _) (by first | rfl | simp) (fun h => by cases h)
    · go_simp
      refine hK _ _ rfl (Below.refl _ _) (by first | rfl | simp) (fun h => by cases h)
    · have d15 : vals 15 = _ := hd 15 (by decide +kernel)
      rw [d15]
      go_simp
      refine hK _ _ rfl (Below.refl _ _) (by first | rfl | simp) (fun h => by cases h)
    · have d14 : vals 14 = _ := hd 14 (by decide +kernel)
      have d16 : vals 16 = _ := hd 16 (by decide +kernel)
      rw [d14, d16]
      go_simp
      refine hK _ _ rfl (Below.refl _ _) (by first | rfl | simp) (fun h => by cases h)
    · have d17 : vals 17 = _ := hd 17 (by decide +kernel)
      rw [d17]
      go_simp
      refine hK _ _ rfl (Below.refl _ _) (by first | rfl | simp) (fun h => by cases h)
    · have z0 := (h_rx.below hS).c0
      have z1 := (h_rx.below hS).c1
      have z2 := (h_rx.below hS).c2
      go_simp
      refine hK _ _ rfl (Below.refl _ _) (by first | rfl | simp) (fun h => by cases h)
    · have z0 := (h_rs.below hS).c0
      have z1 := (h_rs.below hS).c1
      have z2 := (h_rs.below hS).c2
      go_simp
      refine hK _ _ rfl (Below.refl _ _) (by first | rfl | simp) (fun h => by cases h)
    · have d19 : vals 19 = _ := hd 19 (by decide +kernel)
      have d20 : vals 20 = _ := hd 20 (by decide +kernel)
      rw [d19, d20]
      go_simp
      go_at_call 14
      with_reducible refine (keepRat_c (h_x.below hS) (h_s.below hS) (by decide) (by decide) true (keepQ rfl)).mono ?_
      rintro e w2 ⟨rfl, bn_r⟩
      refine hK _ _ rfl bn_r rfl (fun h => by cases h)
    · have d18 : vals 18 = _ := hd 18 (by decide +kernel)
      have d21 : vals 21 = _ := hd 21 (by decide +kernel)
      rw [d18, d21]
      go_simp
      refine hK _ _ rfl (Below.refl _ _) (by first | rfl | simp) (fun h => by cases h)
    · have d22 : vals 22 = _ := hd 22 (by decide +kernel)
      rw [d22]
      go_simp
      refine hK _ _ rfl (Below.refl _ _) (by first | rfl | simp) (fun h => by cases h)
    · have z0 := (h_ry.below hS).c0
      have z1 := (h_ry.below hS).c1
      have z2 := (h_ry.below hS).c2
      go_simp
      refine hK _ _ rfl (Below.refl _ _) (by first | rfl | simp) (fun h => by cases h)
    · go_simp
      refine hK _ _ rfl (Below.refl _ _) (by first | rfl | simp) (fun h => by cases h)
    · have d25 : vals 25 = _ := hd 25 (by decide +kernel)
      rw [d25]
      have hwr : IntKind.i64.wrap (A : Int) = (A : Int) := by rw [IntKind.wrap_i64]; omega
      go_simp
      refine hK _ _ rfl (Below.refl _ _) (by first | rfl | exact congrArg (Value.int IntKind.i64) hwr) (fun h => by cases h)
    · have d26 : vals 26 = _ := hd 26 (by decide +kernel)
      rw [d26]
      go_simp
      go_at_call 20
      with_reducible refine (by_c (A : Int) 1 (by omega) (by omega) (by decide) (by decide) _ F5.out _).mono ?_
      rintro e w2 ⟨r0, r1, r2, r3, r4, r5, rfl, f0, bn_r⟩
      refine hK _ _ rfl bn_r ⟨_, _, _, _, _, _, rfl, f0⟩ (fun h => by cases h)
    · have d24 : vals 24 = _ := hd 24 (by decide +kernel)
      obtain ⟨A_27_0, n_27_1, n_27_2, A_27_3, n_27_4, n_27_5, d27, h_27_0⟩ := hd 27 (by decide +kernel)
      rw [d24, d27]
      go_simp
      go_at_call 14
      with_reducible refine (keepRat_c (h_y.below hS) h_27_0 (by decide) (by decide) true (keepQ rfl)).mono ?_
      rintro e w2 ⟨rfl, bn_r⟩
      refine hK _ _ rfl bn_r rfl (fun h => by cases h)
    · have d23 : vals 23 = _ := hd 23 (by decide +kernel)
      have d28 : vals 28 = _ := hd 28 (by decide +kernel)
      rw [d23, d28]
      go_simp
      refine hK _ _ rfl (Below.refl _ _) (by first | rfl | simp) (fun h => by cases h)
    · have d29 : vals 29 = _ := hd 29 (by decide +kernel)
      rw [d29]
      go_simp
      refine hK _ _ rfl (Below.refl _ _) (by first | rfl | simp) (fun h => by cases h)
    · have z0 := (h_rw.below hS).c0
      have z1 := (h_rw.below hS).c1
      have z2 := (h_rw.below hS).c2
      go_simp
      refine hK _ _ rfl (Below.refl _ _) (by first | rfl | simp) (fun h => by cases h)
    · have z0 := (h_ry.below hS).c0
      have z1 := (h_ry.below hS).c1
      have z2 := (h_ry.below hS).c2
      go_simp
      refine hK _ _ rfl (Below.refl _ _) (by first | rfl | simp) (fun h => by cases h)
    · have d31 : vals 31 = _ := hd 31 (by decide +kernel)
      have d32 : vals 32 = _ := hd 32 (by decide +kernel)
      rw [d31, d32]
      go_simp
      go_at_call 14
      with_reducible refine (keepRat_c (h_w.below hS) (h_y.below hS) (by decide) (by decide) true (keepQ rfl)).mono ?_
      rintro e w2 ⟨rfl, bn_r⟩
      refine hK _ _ rfl bn_r rfl (fun h => by cases h)
    · have d30 : vals 30 = _ := hd 30 (by decide +kernel)
      have d33 : vals 33 = _ := hd 33 (by decide +kernel)
      rw [d30, d33]
      go_simp
      refine hK _ _ rfl (Below.refl _ _) (by first | rfl | simp) (fun h => by cases h)
    · have d34 : vals 34 = _ := hd 34 (by decide +kernel)
      rw [d34]
      go_simp
      refine hK _ _ rfl (Below.refl _ _) (by first | rfl | simp) (fun h => by cases h)
    · go_simp
      go_at_call 7
      with_reducible refine (wakes_any _ (HTab.out.below hS)).mono ?_
      rintro e w2 ⟨rfl, bn_r⟩
      refine hK _ _ rfl bn_r rfl (fun h => by cases h)
    · have d35 : vals 35 = _ := hd 35 (by decide +kernel)
      have d36 : vals 36 = _ := hd 36 (by decide +kernel)
      rw [d35, d36]
      go_simp
      refine hK _ _ rfl (Below.refl _ _) (by first | rfl | simp) (fun h => by cases h)
  case hfin18 =>
    intro vals wr hS hP hne
    have ez_37 : vals 37 = _ := hP 37 (by decide)
    have HB := Lib.hid (below_two bw hS)
    try dsimp only
    rw [ez_37]
    refine wpAny_ready (rs := [38]) (by kernel_rfl) (by simp) (AllReady.cons rfl (fun KC hK => ?_) AllReady.nil)
    go_simp
    refine hK _ _ ?_
    clear hK KC
    refine wpAny_done (by kernel_rfl) ?_ _
    go_wp2
    go_ret
    exact ⟨rfl, HB.out⟩

theorem tab_of {W : World} (h : laidMet Tryz.prog Rows.literalPartsRow.laid W) : LTab W := by
  refine ⟨⟨?_, ?_⟩, ?_⟩
  · first | exact powers_tab (laidMet_drop 0 h) (by decide +kernel) | exact powers_tab (laidMet_drop 1 h) (by decide +kernel) | exact powers_tab (laidMet_drop 2 h) (by decide +kernel) | exact powers_tab (laidMet_drop 3 h) (by decide +kernel) | exact powers_tab (laidMet_drop 4 h) (by decide +kernel) | exact powers_tab (laidMet_drop 5 h) (by decide +kernel) | exact powers_tab (laidMet_drop 6 h) (by decide +kernel) | exact powers_tab (laidMet_drop 7 h) (by decide +kernel) | exact powers_tab (laidMet_drop 8 h) (by decide +kernel) | exact powers_tab (laidMet_drop 9 h) (by decide +kernel) | exact powers_tab (laidMet_drop 10 h) (by decide +kernel) | exact powers_tab (laidMet_drop 11 h) (by decide +kernel) | exact powers_tab (laidMet_drop 12 h) (by decide +kernel) | exact powers_tab (laidMet_drop 13 h) (by decide +kernel)
  · first | exact err_tab (laidMet_drop 0 h) (by decide +kernel) | exact err_tab (laidMet_drop 1 h) (by decide +kernel) | exact err_tab (laidMet_drop 2 h) (by decide +kernel) | exact err_tab (laidMet_drop 3 h) (by decide +kernel) | exact err_tab (laidMet_drop 4 h) (by decide +kernel) | exact err_tab (laidMet_drop 5 h) (by decide +kernel) | exact err_tab (laidMet_drop 6 h) (by decide +kernel) | exact err_tab (laidMet_drop 7 h) (by decide +kernel) | exact err_tab (laidMet_drop 8 h) (by decide +kernel) | exact err_tab (laidMet_drop 9 h) (by decide +kernel) | exact err_tab (laidMet_drop 10 h) (by decide +kernel) | exact err_tab (laidMet_drop 11 h) (by decide +kernel) | exact err_tab (laidMet_drop 12 h) (by decide +kernel) | exact err_tab (laidMet_drop 13 h) (by decide +kernel)
  · first | exact kinds_tab (laidMet_drop 0 h) (by decide +kernel) | exact kinds_tab (laidMet_drop 1 h) (by decide +kernel) | exact kinds_tab (laidMet_drop 2 h) (by decide +kernel) | exact kinds_tab (laidMet_drop 3 h) (by decide +kernel) | exact kinds_tab (laidMet_drop 4 h) (by decide +kernel) | exact kinds_tab (laidMet_drop 5 h) (by decide +kernel) | exact kinds_tab (laidMet_drop 6 h) (by decide +kernel) | exact kinds_tab (laidMet_drop 7 h) (by decide +kernel) | exact kinds_tab (laidMet_drop 8 h) (by decide +kernel) | exact kinds_tab (laidMet_drop 9 h) (by decide +kernel) | exact kinds_tab (laidMet_drop 10 h) (by decide +kernel) | exact kinds_tab (laidMet_drop 11 h) (by decide +kernel) | exact kinds_tab (laidMet_drop 12 h) (by decide +kernel) | exact kinds_tab (laidMet_drop 13 h) (by decide +kernel)

set_option maxRecDepth 100000 in
theorem lifted (os : Os) (started : os.Started) (H : Type) (enc : TypeId × Value → H) :
    ReturnsInHanded {} Tryz.checked os 6 .any (fun w args => (Rows.literalPartsSpec.pre enc Tryz.prog Tryz.f6 [] false w args ∧ laidMetH Tryz.prog Rows.literalPartsRow.laid w) ∧ sizedMet enc Tryz.prog Tryz.f6 (OpenSpec.ofChange Rows.literalPartsSpec) false w args)
      (Rows.literalPartsSpec.post enc Tryz.prog Tryz.f6 false true false false) := by
  refine returnsInHanded_of_change_and (C := Tryz.checked) (X := fun w _ => laidMetH Tryz.prog Rows.literalPartsRow.laid w) (fun _ _ _ hh h => h.of_heap hh) own started (by kernel_rfl) Tryz.func6
    (ChangeSpec.witness_shaped (enc := enc) (C := Tryz.checked) (os := os) (X := fun w _ => laidMetH Tryz.prog Rows.literalPartsRow.laid w) false (World.laidAll Tryz.prog os Rows.literalPartsRow.laid) #[.int .u32 0, .int .u32 0] 8 (World.laidAll_os _ _ _)
      (World.shaped_of_ZipB (by kernel_rfl) (by kernel_rfl)) (by kernel_rfl) (by kernel_rfl) (by kernel_rfl)
      (by rw [MakeChecks.laidMetH_plain _ _ _ (by kernel_rfl)]; exact laidMet_laidAll _ (by kernel_rfl) (by kernel_rfl))) ?_
  intro W base args ds gs before hval0 hW _ _ hL _
  have hval : ∀ (j : Nat) t v, Tryz.f6.params[j]? = some t → args[j]? = some v → Value.okWide Tryz.prog W .any base t v := hval0
  have hW' := hW
  obtain ⟨p, q, hA0, hV, rfl, hfz, hnd⟩ := hW
  have hA : DataW.TrodAll enc Tryz.prog W 0 (fun _ => true) true Tryz.f6.params.toList args.toList ds p := hA0
  rw [Tryz.params6] at hA hval
  obtain ⟨v0, vs0, d0, ds0, p0, q0, hargs, rfl, rfl, h0, r0⟩ := trodAll_cons hA
  obtain ⟨v1, vs1, d1, ds1, p1, q1, rfl, rfl, rfl, h1, r1⟩ := trodAll_cons r0
  obtain ⟨rfl, rfl, rfl⟩ := trodAll_nil r1
  obtain rfl : args = #[v0, v1] := by cases args; simp_all
  obtain ⟨rfl, rfl⟩ := trodVars_none hV
  obtain ⟨a0, rfl, rfl, rfl, w0⟩ := open_int Tryz.underlying38 (hval 0 38 v0 rfl rfl) h0
  obtain ⟨a1, rfl, rfl, rfl, w1⟩ := open_int Tryz.underlying38 (hval 1 38 v1 rfl rfl) h1
  clear hA0 hval0
  simp only [List.append_nil] at hW'
  rw [MakeChecks.laidMetH_plain _ _ _ (by kernel_rfl)] at hL
  refine (walk a0 a1 W w0 w1 (tab_of hL)).mono fun e W' ⟨he, bel⟩ => ?_
  subst he
  exact ⟨_, rfl, _, _, _, [], _, [], hW', trodAll_mk1 (shut_bool Tryz.underlying4 _), (trodAll_cons_mk (shut_int Tryz.underlying38 w0) (trodAll_cons_mk (shut_int Tryz.underlying38 w1) trodAll_mk0)), rfl, bel.frame _, fun h => by cases h⟩

theorem over : Rows.literalPartsRow.holds Tryz.pinned (OpenSpec.ofChange Rows.literalPartsSpec) :=
  OpenClaim.holds_of_wide 6 Tryz.f6 rfl rfl rfl rfl rfl rfl rfl ⟨rfl, rfl, rfl, rfl, rfl⟩ rfl rfl rfl rfl rfl (by kernel_rfl) Tryz.func6 (by kernel_rfl)
    (of_decide_eq_true (by kernel_rfl)) (by unfold Func.isWrapper; first | (rw [if_pos (by decide +kernel)]; kernel_rfl) | (rw [if_neg (by decide +kernel)]; exact ⟨rfl, rfl⟩))
    (fun os started H enc _ => lifted os started H enc)

theorem proved : Rows.LiteralPartsCardSaid :=
  Claim7.holds_tied_plain_at .later [] Rows.literalPartsCard.laidKinds true Rows.literalPartsCard.stood.harness Rows.literalPartsCard.stood.looks
    over (fun _ h => by cases h) (by kernel_rfl) (fun _ h => by cases h) literalParts_row_tie rfl ⟨rfl, rfl⟩ (by kernel_rfl) rfl
    (fun f fn hf hfn => by
      obtain rfl : f = 6 := Option.some.inj ((show Tryz.prog.funcNamed Rows.literalPartsRow.func = some 6 by kernel_rfl).symm.trans hf) |>.symm
      obtain rfl : fn = Tryz.f6 := (Option.some.inj (Tryz.func6.symm.trans hfn)).symm
      exact ⟨by kernel_rfl, fun j t ht => by
        have hm : t ∈ Tryz.f6.params.toList := by simpa using Array.mem_of_getElem? ht
        have hall : (Tryz.f6.params.toList.all fun u => !Tryz.prog.wantsStandIn u) = true := by kernel_rfl
        exact (show Tryz.prog.wantsStandIn t = false by simpa using List.all_eq_true.1 hall t hm)⟩)
    (by kernel_rfl)

end Go.Proofs.YtjpoolddgocbbaaGreatDoor.lawLiteralParts
