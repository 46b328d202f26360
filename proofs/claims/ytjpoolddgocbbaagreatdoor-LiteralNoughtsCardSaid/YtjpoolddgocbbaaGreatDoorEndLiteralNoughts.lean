/- Of any two numbers: noughts ahead and behind change no literal, an exponent moves the point. Condition: the listed tables. -/
import Derived.Test.YtjpoolddgocbbaaGreatDoorM9
import Derived.Test.YtjpoolddgocbbaaGreatDoorCards
import Derived.Test.YtjpoolddgocbbaaGreatDoorTie
import Derived.ChangeMaps5
import Derived.Lay
import Derived.SevenTiedAt
/- How an argument that is an array of three bytes is opened. No condition. -/
namespace Go.Proofs.YtjpoolddgocbbaaGreatDoor
open Go.ChangeShapes Go.WideShapes Go.ChangeAt Go.RowKit Limb
set_option linter.unusedVariables false

theorem cells_byte : Tryz.prog.cellsOf 5 = 1 := by kernel_rfl
theorem cells_tri8 : Tryz.prog.cellsOf 39 = 3 := by kernel_rfl

set_option maxRecDepth 4000 in
theorem open_tri8 {H : Type} {enc : TypeId × Value → H} {W : World} {r : Reach} {b0 base : Nat} {sp : Nat → Bool} {held : Bool} {v : Value} {d : DataW H} {p : List MemPlace}
    (hok : Value.okWide Tryz.prog W r b0 39 v) (h : DataW.Trod enc Tryz.prog W base sp held 39 v d p) :
    ∃ a b c : Int, v = .agg #[.int .u8 a, .int .u8 b, .int .u8 c] ∧ (Lit.int .u8 a).wf = true ∧ (Lit.int .u8 b).wf = true ∧ (Lit.int .u8 c).wf = true := by
  simp only [Value.okWide, Tryz.underlying39] at hok
  obtain ⟨cs, rfl, hsz, _⟩ := hok
  rw [cells_tri8] at hsz
  obtain ⟨fuel, hf⟩ := h
  obtain ⟨xs, m, rfl, hx, hlen, hxl, hel⟩ := DataW.trod_array Tryz.underlying39 hf
  have h0 := hel 0 (by decide)
  have h1 := hel 1 (by decide)
  have h2 := hel 2 (by decide)
  rw [List.getElem?_eq_getElem (by omega), cells_byte] at h0 h1 h2
  obtain ⟨a, ha, _, wa⟩ := DataW.trod_int Tryz.underlying5 h0
  obtain ⟨b, hb, _, wb⟩ := DataW.trod_int Tryz.underlying5 h1
  obtain ⟨c, hc, _, wc⟩ := DataW.trod_int Tryz.underlying5 h2
  refine ⟨a, b, c, ?_, wa, wb, wc⟩
  have e : cs.toList = [.int .u8 a, .int .u8 b, .int .u8 c] := by
    have h3 : cs.toList.length = 3 := by simpa using hsz
    match hcs : cs.toList, h3 with
    | [c0, c1, c2], _ =>
      simp [Value.cells, hcs] at ha hb hc
      rw [ha, hb, hc]
  congr 1
  rw [← Array.toArray_toList (xs := cs), e]

theorem wf_byte {n : Int} (h : (Lit.int .u8 n).wf = true) : 0 ≤ n ∧ n ≤ 255 := by
  have h1 : IntKind.u8.min = 0 := rfl
  have h2 : IntKind.u8.max = 255 := rfl
  simp only [Lit.wf, Bool.and_eq_true, decide_eq_true_eq] at h
  omega

end Go.Proofs.YtjpoolddgocbbaaGreatDoor

/- What the statements' dec answers, as a contract over memory: decimal digits. No condition. -/
namespace Go.Proofs.YtjpoolddgocbbaaGreatDoor
open Go.RowKit Limb
set_option linter.unusedVariables false
theorem one_byte (y : Nat) (hy : y < 256) (W : World) : (convert 66 9 (.slice (some ⟨W.heap.size, 0, none⟩) 1 1)).run Tryz.prog (W.alloc (.cells #[Value.int IntKind.u8 (y : Int)] 5)) = .ok (.string (strOf [y])) (W.alloc (.cells #[Value.int IntKind.u8 (y : Int)] 5)) :=
  run_text ⟨rfl, bytes_cons.2 ⟨hy, bytes_nil⟩, fun _ => ⟨W.heap.size, 0, rfl, by simp, fun j hj => by
    obtain rfl : j = 0 := by omega
    rw [World.cell?_alloc_at _ _ _ _ rfl]; rfl⟩⟩ (by decide)
theorem byte_isB (y : Nat) (hy : y < 256) (W : World) : IsB (W.alloc (.cells #[Value.int IntKind.u8 (y : Int)] 5)) (some ⟨W.heap.size, 0, none⟩) 1 [y] :=
  ⟨rfl, bytes_cons.2 ⟨hy, bytes_nil⟩, fun _ => ⟨W.heap.size, 0, rfl, by simp, fun j hj => by
    obtain rfl : j = 0 := by omega
    rw [World.cell?_alloc_at _ _ _ _ rfl]; rfl⟩⟩

set_option maxHeartbeats 2000000 in
set_option maxRecDepth 100000 in
theorem dec_n : ∀ (n : Nat), n ≤ 9223372036854775807 → ∀ (w : World), Calls Tryz.prog 15 #[.int .i64 (n : Int)] w fun e w' => e = .returned (.string (strOf (decT n))) ∧ Below w.heap.size w w' := by
  intro n
  induction n using Nat.strongRecOn with
  | _ n ih =>
    intro hn w
    have HW := Lib.hid (Below.refl w.heap.size w)
    by_cases h10 : n < 10
    · have hc := one_byte (48 + n) (by omega) w
      have HB := Lib.hid (below_new w (.cells #[Value.int IntKind.u8 ((48 + n : Nat) : Int)] 5))
      obtain ⟨y, hy⟩ : ∃ y, 48 + n = y := ⟨_, rfl⟩
      rw [hy] at hc HB
      have HE : RowKit.Hid (strOf [y] = strOf (decT n)) := by show _ = _; rw [decT_small h10, hy]
      have e1 : IntKind.u8.wrap (n : Int) = (n : Int) := by rw [IntKind.wrap_u8]; omega
      have e2 : IntKind.u8.wrap (48 + (n : Int)) = (y : Int) := by rw [IntKind.wrap_u8]; omega
      have e3 : (48 : Int) + (n : Int) = (y : Int) := by omega
      clear hy HW
      go_enter Tryz.func15, Tryz.ntmps15
      go_wp2
      go_ret
      exact ⟨by rw [← HE.out]; rfl, HB.out⟩
    · obtain ⟨q, hq⟩ : ∃ q, n / 10 = q := ⟨_, rfl⟩
      obtain ⟨m, hm⟩ : ∃ m, n % 10 = m := ⟨_, rfl⟩
      have eq : (n : Int) / 10 = (q : Int) := by omega
      have em : (n : Int) % 10 = (m : Int) := by omega
      have hm9 : m < 10 := by omega
      have ewq : IntKind.i64.wrap (q : Int) = (q : Int) := by rw [IntKind.wrap_i64]; omega
      have etm : (n : Int).tmod 10 = (m : Int) := by rw [Int.tmod_eq_emod_of_nonneg (by omega)]; exact em
      obtain ⟨y, hy⟩ : ∃ y, 48 + m = y := ⟨_, rfl⟩
      have hy9 : y < 256 := by omega
      have ewy : IntKind.u8.wrap (y : Int) = (y : Int) := by rw [IntKind.wrap_u8]; omega
      have e1 : IntKind.u8.wrap (m : Int) = (m : Int) := by rw [IntKind.wrap_u8]; omega
      have e2 : IntKind.u8.wrap (48 + (m : Int)) = (y : Int) := by rw [IntKind.wrap_u8]; omega
      have e3 : (48 : Int) + (m : Int) = (y : Int) := by omega
      have hIH : ∀ W : World, Calls Tryz.prog 15 #[.int .i64 (q : Int)] W fun e w' => e = .returned (.string (strOf (decT q))) ∧ Below W.heap.size W w' := fun W => ih q (by omega) (by omega) W
      obtain ⟨S, hS⟩ : ∃ S, strOf (decT q) = S := ⟨_, rfl⟩
      obtain ⟨Y, hY⟩ : ∃ Y, strOf [y] = Y := ⟨_, rfl⟩
      have zS : S.size ≤ 40 := by rw [← hS, size_strOf]; exact Nat.le_trans (decT_len_le (k := 20) (Nat.lt_of_le_of_lt (show q ≤ 9223372036854775807 by omega) (by decide)) (by decide)) (by decide)
      have zY : Y.size = 1 := by rw [← hY, size_strOf]; rfl
      have HE : RowKit.Hid (S ++ Y = strOf (decT n)) := by show _ = _; rw [← hS, ← hY, strOf_append, show decT n = decT (n / 10) ++ [48 + n % 10] from decT_big (by omega), hq, hm, hy]
      rw [hS] at hIH
      have IH := Lib.hid hIH
      have HY := Lib.hid hY
      clear hIH hS hY hq hm hy
      go_enter Tryz.func15, Tryz.ntmps15
      go_wp2
      obtain ⟨wS, ew⟩ : ∃ v, v = w := ⟨_, rfl⟩
      subst ew
      refine region_free 10 1 [10, 11, 12, 13, 14, 15, 16, 17, 18, 19] ?aF17 (fun wx => Below wS.heap.size wS wx) (fun k vv wx => match k with
          | 0 => vv = .int .i64 (n : Int)
          | 1 => vv = .int .i64 (q : Int)
          | 2 => vv = .string S
          | 3 => vv = .int .i64 (n : Int)
          | 4 => vv = .int .i64 (m : Int)
          | 5 => vv = .int .u8 (m : Int)
          | 6 => vv = .int .u8 (y : Int)
          | 7 => ∃ (e0 : Nat), vv = .slice (some ⟨e0, 0, none⟩) 1 1 ∧ IsB wx (some ⟨e0, 0, none⟩) 1 [y]
          | 8 => vv = .string Y
          | _ => vv = .string (S ++ Y))
        (fun k => false) (by kernel_rfl) ?haF17 rfl (by kernel_rfl) (by kernel_rfl) (fun _ _ _ _ _ h => h) ?hSb17 ?hPb17 ?hS17 ?hop17 ?hfin17
      case haF17 =>
        intro vals
        simp only [fillAll, List.getElem?_cons_zero, List.getElem?_cons_succ, Act.put, List.setIfInBounds_toArray, List.set_cons_zero, List.set_cons_succ]
        exact rfl
      case hSb17 => exact fun wx w2 hb hS => below_two hS hb
      case hPb17 =>
        intro k v wa wb hb h
        match k, h with
        | 0, h => exact h
        | 1, h => exact h
        | 2, h => exact h
        | 3, h => exact h
        | 4, h => exact h
        | 5, h => exact h
        | 6, h => exact h
        | 7, ⟨e0, h1, g0⟩ => exact ⟨e0, h1, g0.below hb⟩
        | 8, h => exact h
        | _ + 9, h => exact h
      case hS17 => exact (Below.refl _ _).drew
      case hop17 =>
        refine .cons (k := 0) ?_ (.cons (k := 1) ?_ (.cons (k := 2) ?_ (.cons (k := 3) ?_ (.cons (k := 4) ?_ (.cons (k := 5) ?_ (.cons (k := 6) ?_ (.cons (k := 7) ?_ (.cons (k := 8) ?_ (.cons (k := 9) ?_ (.nil))))))))))
        all_goals intro vals wr hS hd KC hK
        all_goals (show Oper.wp _ _ _ _ _ _; dsimp only)
        · go_simp
          refine hK _ _ rfl (Below.refl _ _) (by first | rfl | simp) (fun h => by cases h)
        · have d0 : vals 0 = _ := hd 0 (by decide +kernel)
          rw [d0]
          go_simp
          refine hK _ _ rfl (Below.refl _ _) (by first | rfl | simp) (fun h => by cases h)
        · have d1 : vals 1 = _ := hd 1 (by decide +kernel)
          rw [d1]
          go_simp
          go_at_call 15
          with_reducible refine ((IH.out _)).mono ?_
          rintro e w2 ⟨rfl, bn_r⟩
          refine hK _ _ rfl bn_r rfl (fun h => by cases h)
        · go_simp
          refine hK _ _ rfl (Below.refl _ _) (by first | rfl | simp) (fun h => by cases h)
        · have d3 : vals 3 = _ := hd 3 (by decide +kernel)
          rw [d3]
          go_simp
          refine hK _ _ rfl (Below.refl _ _) (by first | rfl | simp) (fun h => by cases h)
        · have d4 : vals 4 = _ := hd 4 (by decide +kernel)
          rw [d4]
          go_simp
          refine hK _ _ rfl (Below.refl _ _) (by first | rfl | simp) (fun h => by cases h)
        · have d5 : vals 5 = _ := hd 5 (by decide +kernel)
          rw [d5]
          go_simp
          refine hK _ _ rfl (Below.refl _ _) (by first | rfl | simp) (fun h => by cases h)
        · have d6 : vals 6 = _ := hd 6 (by decide +kernel)
          rw [d6]
          go_simp
          refine hK _ _ rfl (below_new _ _) ⟨_, rfl, byte_isB y hy9 wr⟩ (fun h => by cases h)
        · obtain ⟨n_7_0, d7, h_7_0⟩ := hd 7 (by decide +kernel)
          rw [d7]
          have hrt := run_text (c := 1) h_7_0 (by decide)
          rw [HY.out] at hrt
          go_simp
          refine hK _ _ rfl (Below.refl _ _) (by first | rfl | simp) (fun h => by cases h)
        · have d2 : vals 2 = _ := hd 2 (by decide +kernel)
          have d8 : vals 8 = _ := hd 8 (by decide +kernel)
          rw [d2, d8]
          go_simp
          rw [if_neg (by omega)]
          go_simp
          refine hK _ _ rfl (Below.refl _ _) (by first | rfl | simp) (fun h => by cases h)
      case hfin17 =>
        intro vals wr hS hP hne
        have ez_9 : vals 9 = _ := hP 9 (by decide)
        have HB := Lib.hid (below_two HW.out hS)
        try dsimp only
        rw [ez_9]
        refine wpAny_ready (rs := [10]) (by kernel_rfl) (by simp) (AllReady.cons rfl (fun KC hK => ?_) AllReady.nil)
        go_simp
        refine hK _ _ ?_
        clear hK KC
        refine wpAny_done (by kernel_rfl) ?_ _
        go_wp2
        go_ret
        exact ⟨by rw [← HE.out]; rfl, HB.out⟩
theorem dec_c (n : Nat) (h : n ≤ 9223372036854775807) (V : Int) (hV : V = n) (S : ByteArray) (hS : strOf (decT n) = S) (w : World) : Calls Tryz.prog 15 #[.int .i64 V] w fun e w' => e = .returned (.string S) ∧ Below w.heap.size w w' := by
  subst hV; subst hS; exact dec_n n h w

end Go.Proofs.YtjpoolddgocbbaaGreatDoor

/- What package whole's Add answers, as a contract over memory: whole numbers in the shortest limbs, 0 not below 0. Conditions: sizes of at most so many limbs; the table of powers of ten where texts are made or read. -/
namespace Go.Proofs.YtjpoolddgocbbaaGreatDoor
open Go.RowKit Limb
set_option linter.unusedVariables false
section
variable {w : World} {s s' : Bool} {A A' : Option Addr} {n c n' c' : Nat} {xs ys : List Nat} {x y : Int} {L L' : Nat}
set_option maxHeartbeats 4000000 in
set_option maxRecDepth 100000 in
theorem wAdd_c (hx : ZZ w s A n c xs x L) (hy : ZZ w s' A' n' c' ys y L') (K : Nat) (h1 : L < K) (h2 : L' < K) (h3 : K ≤ 100000) (z : Int) (hz : x + y = z) :
    Calls Tryz.prog 43 #[.agg #[.bool s, .slice A n c], .agg #[.bool s', .slice A' n' c']] w fun e w' => ∃ A2 n2 c2, e = .returned (.agg #[.bool (sg z), .slice A2 n2 c2]) ∧ ZZ w' (sg z) A2 n2 c2 (limbs z.natAbs) z K ∧ Below w.heap.size w w' := by
  have HX := Lib.hid hx.zof
  have HY := Lib.hid hy.zof
  by_cases hs : s = s'
  · subst hs
    have HS : RowKit.Hid (zOf s (x.natAbs + y.natAbs) = z) := (zOf_add HX.out HY.out).trans hz
    clear hz HX HY
    have b0 := below_new w (.cells #[Value.bool s, Value.slice A n c] 26)
    have b1 := below_new (w.alloc (.cells #[Value.bool s, Value.slice A n c] 26)) (.cells #[Value.bool s, Value.slice A' n' c'] 26)
    have bz := below_new ((w.alloc (.cells #[Value.bool s, Value.slice A n c] 26)).alloc (.cells #[Value.bool s, Value.slice A' n' c'] 26)) zbox
    have HW := Lib.hid (below_two (below_two b0 b1) bz)
    have HN := Lib.hid (hx.nn.below HW.out)
    have HM := Lib.hid (hy.nn.below HW.out)
    have r0 := ((row2_new w 26 (.bool s) (.slice A n c)).below b1).below bz
    have r1 := (row2_new (w.alloc (.cells #[Value.bool s, Value.slice A n c] 26)) 26 (.bool s) (.slice A' n' c')).below bz
    have rz : ZB (((w.alloc (.cells #[Value.bool s, Value.slice A n c] 26)).alloc (.cells #[Value.bool s, Value.slice A' n' c'] 26)).alloc zbox) ((w.alloc (.cells #[Value.bool s, Value.slice A n c] 26)).alloc (.cells #[Value.bool s, Value.slice A' n' c'] 26)).heap.size := row2_new ((w.alloc (.cells #[Value.bool s, Value.slice A n c] 26)).alloc (.cells #[Value.bool s, Value.slice A' n' c'] 26)) _ _ _
    simp only [World.size_alloc] at r1 rz
    clear b0 b1 bz hx hy
    go_enter Tryz.func43, Tryz.ntmps43
    go_wp2_with fail
    generalize ((w.alloc (.cells #[Value.bool s, Value.slice A n c] 26)).alloc (.cells #[Value.bool s, Value.slice A' n' c'] 26)).alloc zbox = w1 at *
    have HR0 := Lib.hid r0
    have c00 := r0.c0
    have c01 := r0.c1
    have HR1 := Lib.hid r1
    have c10 := r1.c0
    have c11 := r1.c1
    have HZ := Lib.hid rz
    clear r0 r1 rz
    clear c00 c01 c10 c11
    refine region_free 8 1 [14, 15, 16, 17, 18, 19, 20, 21] ?aF (fun wx => Below w1.heap.size w1 wx) (fun k v wx => match k with
        | 0 => v = .pointer (some ⟨w.heap.size, 0, none⟩)
        | 1 => v = .bool s
        | 2 => v = .pointer (some ⟨w.heap.size, 1, none⟩)
        | 3 => v = .slice A n c
        | 4 => v = .pointer (some ⟨w.heap.size + 1, 1, none⟩)
        | 5 => v = .slice A' n' c'
        | 6 => ∃ A2 n2 c2, v = .slice A2 n2 c2 ∧ NN wx A2 n2 c2 (limbs (x.natAbs + y.natAbs)) (x.natAbs + y.natAbs) K
        | _ => ∃ A2 n2 c2, v = .agg #[.bool (sg z), .slice A2 n2 c2] ∧ ZZ wx (sg z) A2 n2 c2 (limbs z.natAbs) z K)
      (fun _ => false) (by kernel_rfl) ?haF rfl (by kernel_rfl) (by kernel_rfl) (fun _ _ _ _ _ h => h) ?hSb ?hPb ?hS ?hop ?hfin
    case haF =>
      intro vals
      simp only [fillAll, List.getElem?_cons_zero, List.getElem?_cons_succ, Act.put, List.setIfInBounds_toArray, List.set_cons_zero, List.set_cons_succ]
      exact rfl
    case hSb => exact fun wx w2 hb hS => below_two hS hb
    case hPb =>
      intro k v wa wb hb h
      match k, h with
      | 0, h => exact h
      | 1, h => exact h
      | 2, h => exact h
      | 3, h => exact h
      | 4, h => exact h
      | 5, h => exact h
      | 6, ⟨A2, n2, c2, h1, h2⟩ => exact ⟨A2, n2, c2, h1, h2.below hb⟩
      | _ + 7, ⟨A2, n2, c2, h1, h2⟩ => exact ⟨A2, n2, c2, h1, h2.below hb⟩
    case hS => exact (Below.refl _ _).drew
    case hop =>
      refine .cons (k := 0) ?_ (.cons (k := 1) ?_ (.cons (k := 2) ?_ (.cons (k := 3) ?_ (.cons (k := 4) ?_ (.cons (k := 5) ?_ (.cons (k := 6) ?_ (.cons (k := 7) ?_ (.nil))))))))
      all_goals intro vals wr hS hd KC hK
      all_goals (show Oper.wp _ _ _ _ _ _; dsimp only)
      · go_simp
        refine hK _ _ rfl (Below.refl _ _) rfl (fun h => by cases h)
      · have d0 : vals 0 = _ := hd 0 (by decide +kernel)
        rw [d0]
        have c0 := (HR0.out.below hS).c0
        go_simp
        refine hK _ _ rfl (Below.refl _ _) rfl (fun h => by cases h)
      · go_simp
        refine hK _ _ rfl (Below.refl _ _) rfl (fun h => by cases h)
      · have d2 : vals 2 = _ := hd 2 (by decide +kernel)
        rw [d2]
        have c0 := (HR0.out.below hS).c1
        go_simp
        refine hK _ _ rfl (Below.refl _ _) rfl (fun h => by cases h)
      · go_simp
        refine hK _ _ rfl (Below.refl _ _) rfl (fun h => by cases h)
      · have d4 : vals 4 = _ := hd 4 (by decide +kernel)
        rw [d4]
        have c0 := (HR1.out.below hS).c1
        go_simp
        refine hK _ _ rfl (Below.refl _ _) rfl (fun h => by cases h)
      · have d3 : vals 3 = _ := hd 3 (by decide +kernel)
        have d5 : vals 5 = _ := hd 5 (by decide +kernel)
        rw [d3, d5]
        go_simp
        go_at_call 48
        with_reducible refine (add_c (HN.out.below hS) (HM.out.below hS) K h1 h2 (by omega)).mono ?_
        rintro e w2 ⟨A_r, n_r, c_r, rfl, h_r, bn_r⟩
        refine hK _ _ rfl bn_r ⟨_, _, _, rfl, h_r⟩ (fun h => by cases h)
      · have d1 : vals 1 = _ := hd 1 (by decide +kernel)
        obtain ⟨A_m, n_m, c_m, d6, h_m⟩ := hd 6 (by decide +kernel)
        rw [d1, d6]
        go_simp
        go_at_call 62
        with_reducible refine (signed_c h_m _ z (by first | exact HS.out | simpa using HS.out)).mono ?_
        rintro e w2 ⟨rfl, h_r, bn_r⟩
        refine hK _ _ rfl bn_r ⟨_, _, _, rfl, h_r⟩ (fun h => by cases h)
    case hfin =>
      intro vals wr hS hP hne
      obtain ⟨A2, n2, c2, ez, h3⟩ := hP 7 (by decide)
      have hZ3 := HZ.out.below hS
      obtain ⟨e0, e1, f0, f1⟩ := hZ3.cells
      try dsimp only
      rw [ez]
      have HF := Lib.hid (hZ3.fill (.bool (sg z)) (.slice A2 n2 c2))
      have HP := Lib.hid (h3.put hZ3 (.bool (sg z)) (.slice A2 n2 c2))
      have HB := Lib.hid (below_fill (g := w.heap.size + 1 + 1) (below_two HW.out hS) (by omega) (.bool (sg z)) (.slice A2 n2 c2))
      refine wpAny_ready (rs := [8]) (by kernel_rfl) (by simp) (AllReady.cons rfl (fun KC hK => ?_) AllReady.nil)
      go_simp
      refine hK _ _ ?_
      clear hK KC
      refine wpAny_done (by kernel_rfl) ?_ _
      go_wp2
      refine bodyPost_ret (results_cell_row rfl _ _ (w.heap.size + 1 + 1) 26 #[.bool (sg z), .slice A2 n2 c2] (0, 0) _ rfl HF.out Tryz.underlying26 rfl int_size) rfl ?_
      exact ⟨A2, n2, c2, rfl, HP.out, HB.out⟩
  · by_cases hab : y.natAbs ≤ x.natAbs
    · have HS : RowKit.Hid (zOf s (x.natAbs - y.natAbs) = z) := (zOf_sub HX.out HY.out hs hab).trans hz
      have HK : RowKit.Hid (x.natAbs - y.natAbs < 4294967296 ^ K) := Nat.lt_of_le_of_lt (Nat.sub_le _ _) (Nat.lt_of_lt_of_le (lt_pow hx.nn) (Nat.pow_le_pow_right (by decide) (by omega)))
      clear hz HX HY
      have hs2 : (s == s') = false := by simpa using hs
      clear hs
      have b0 := below_new w (.cells #[Value.bool s, Value.slice A n c] 26)
      have b1 := below_new (w.alloc (.cells #[Value.bool s, Value.slice A n c] 26)) (.cells #[Value.bool s', Value.slice A' n' c'] 26)
      have bz := below_new ((w.alloc (.cells #[Value.bool s, Value.slice A n c] 26)).alloc (.cells #[Value.bool s', Value.slice A' n' c'] 26)) zbox
      have HW := Lib.hid (below_two (below_two b0 b1) bz)
      have HN := Lib.hid (hx.nn.below HW.out)
      have HM := Lib.hid (hy.nn.below HW.out)
      have r0 := ((row2_new w 26 (.bool s) (.slice A n c)).below b1).below bz
      have r1 := (row2_new (w.alloc (.cells #[Value.bool s, Value.slice A n c] 26)) 26 (.bool s') (.slice A' n' c')).below bz
      have rz : ZB (((w.alloc (.cells #[Value.bool s, Value.slice A n c] 26)).alloc (.cells #[Value.bool s', Value.slice A' n' c'] 26)).alloc zbox) ((w.alloc (.cells #[Value.bool s, Value.slice A n c] 26)).alloc (.cells #[Value.bool s', Value.slice A' n' c'] 26)).heap.size := row2_new ((w.alloc (.cells #[Value.bool s, Value.slice A n c] 26)).alloc (.cells #[Value.bool s', Value.slice A' n' c'] 26)) _ _ _
      simp only [World.size_alloc] at r1 rz
      clear b0 b1 bz hx hy
      go_enter Tryz.func43, Tryz.ntmps43
      go_wp2_with fail
      generalize ((w.alloc (.cells #[Value.bool s, Value.slice A n c] 26)).alloc (.cells #[Value.bool s', Value.slice A' n' c'] 26)).alloc zbox = w1 at *
      have HR0 := Lib.hid r0
      have c00 := r0.c0
      have c01 := r0.c1
      have HR1 := Lib.hid r1
      have c10 := r1.c0
      have c11 := r1.c1
      have HZ := Lib.hid rz
      clear r0 r1 rz
      go_wp2_with fail
      refine (sub_yes HN.out HM.out (by omega) (by omega) hab).mono ?_
      rintro e w2 ⟨A2, n2, c2, rfl, h2, bn2⟩
      have BN2 := Lib.hid bn2
      have d200 := (HR0.out.below BN2.out).c0
      have d201 := (HR0.out.below BN2.out).c1
      have d210 := (HR1.out.below BN2.out).c0
      have d211 := (HR1.out.below BN2.out).c1
      clear bn2
      go_wp2_with fail
      refine (signed_c (h2.relax HK.out) _ z (by first | exact HS.out | simpa using HS.out)).mono ?_
      rintro e w4 ⟨rfl, h4, bm⟩
      have BN4 := Lib.hid (below_two BN2.out bm)
      obtain ⟨e0, e1, f0, f1⟩ := (HZ.out.below BN4.out).cells
      have HF := Lib.hid ((HZ.out.below BN4.out).fill (.bool (sg z)) (.slice A2 n2 c2))
      have HP := Lib.hid (h4.put (HZ.out.below BN4.out) (.bool (sg z)) (.slice A2 n2 c2))
      have HB := Lib.hid (below_fill (g := w.heap.size + 1 + 1) (below_two HW.out BN4.out) (by omega) (.bool (sg z)) (.slice A2 n2 c2))
      clear bm
      go_wp2
      refine bodyPost_ret (results_cell_row rfl _ _ (w.heap.size + 1 + 1) 26 #[.bool (sg z), .slice A2 n2 c2] (0, 0) _ rfl HF.out Tryz.underlying26 rfl int_size) rfl ?_
      exact ⟨A2, n2, c2, rfl, HP.out, HB.out⟩
    · have HS : RowKit.Hid (zOf s' (y.natAbs - x.natAbs) = z) := (zOf_sub HY.out HX.out (Ne.symm hs) (by omega)).trans ((Int.add_comm _ _).trans hz)
      have HK : RowKit.Hid (y.natAbs - x.natAbs < 4294967296 ^ K) := Nat.lt_of_le_of_lt (Nat.sub_le _ _) (Nat.lt_of_lt_of_le (lt_pow hy.nn) (Nat.pow_le_pow_right (by decide) (by omega)))
      have hba : x.natAbs ≤ y.natAbs := by omega
      clear hz HX HY
      have hs2 : (s == s') = false := by simpa using hs
      clear hs
      have b0 := below_new w (.cells #[Value.bool s, Value.slice A n c] 26)
      have b1 := below_new (w.alloc (.cells #[Value.bool s, Value.slice A n c] 26)) (.cells #[Value.bool s', Value.slice A' n' c'] 26)
      have bz := below_new ((w.alloc (.cells #[Value.bool s, Value.slice A n c] 26)).alloc (.cells #[Value.bool s', Value.slice A' n' c'] 26)) zbox
      have HW := Lib.hid (below_two (below_two b0 b1) bz)
      have HN := Lib.hid (hx.nn.below HW.out)
      have HM := Lib.hid (hy.nn.below HW.out)
      have r0 := ((row2_new w 26 (.bool s) (.slice A n c)).below b1).below bz
      have r1 := (row2_new (w.alloc (.cells #[Value.bool s, Value.slice A n c] 26)) 26 (.bool s') (.slice A' n' c')).below bz
      have rz : ZB (((w.alloc (.cells #[Value.bool s, Value.slice A n c] 26)).alloc (.cells #[Value.bool s', Value.slice A' n' c'] 26)).alloc zbox) ((w.alloc (.cells #[Value.bool s, Value.slice A n c] 26)).alloc (.cells #[Value.bool s', Value.slice A' n' c'] 26)).heap.size := row2_new ((w.alloc (.cells #[Value.bool s, Value.slice A n c] 26)).alloc (.cells #[Value.bool s', Value.slice A' n' c'] 26)) _ _ _
      simp only [World.size_alloc] at r1 rz
      clear b0 b1 bz hx hy
      go_enter Tryz.func43, Tryz.ntmps43
      go_wp2_with fail
      generalize ((w.alloc (.cells #[Value.bool s, Value.slice A n c] 26)).alloc (.cells #[Value.bool s', Value.slice A' n' c'] 26)).alloc zbox = w1 at *
      have HR0 := Lib.hid r0
      have c00 := r0.c0
      have c01 := r0.c1
      have HR1 := Lib.hid r1
      have c10 := r1.c0
      have c11 := r1.c1
      have HZ := Lib.hid rz
      clear r0 r1 rz
      go_wp2_with fail
      refine (sub_no HN.out HM.out (by omega) (by omega) (by omega)).mono ?_
      rintro e w2 ⟨Au, nu, cu, rfl, h2, bn2⟩
      have BN2 := Lib.hid bn2
      have d200 := (HR0.out.below BN2.out).c0
      have d201 := (HR0.out.below BN2.out).c1
      have d210 := (HR1.out.below BN2.out).c0
      have d211 := (HR1.out.below BN2.out).c1
      clear bn2
      clear h2
      go_wp2_with fail
      refine (sub_yes (HM.out.below BN2.out) (HN.out.below BN2.out) (by omega) (by omega) hba).mono ?_
      rintro e w3 ⟨A2, n2, c2, rfl, h3, bn3⟩
      have BN3 := Lib.hid (below_two BN2.out bn3)
      have d300 := (HR0.out.below BN3.out).c0
      have d301 := (HR0.out.below BN3.out).c1
      have d310 := (HR1.out.below BN3.out).c0
      have d311 := (HR1.out.below BN3.out).c1
      clear bn3
      go_wp2_with fail
      refine (signed_c (h3.relax HK.out) _ z (by first | exact HS.out | simpa using HS.out)).mono ?_
      rintro e w4 ⟨rfl, h4, bm⟩
      have BN4 := Lib.hid (below_two BN3.out bm)
      obtain ⟨e0, e1, f0, f1⟩ := (HZ.out.below BN4.out).cells
      have HF := Lib.hid ((HZ.out.below BN4.out).fill (.bool (sg z)) (.slice A2 n2 c2))
      have HP := Lib.hid (h4.put (HZ.out.below BN4.out) (.bool (sg z)) (.slice A2 n2 c2))
      have HB := Lib.hid (below_fill (g := w.heap.size + 1 + 1) (below_two HW.out BN4.out) (by omega) (.bool (sg z)) (.slice A2 n2 c2))
      clear bm
      go_wp2
      refine bodyPost_ret (results_cell_row rfl _ _ (w.heap.size + 1 + 1) 26 #[.bool (sg z), .slice A2 n2 c2] (0, 0) _ rfl HF.out Tryz.underlying26 rfl int_size) rfl ?_
      exact ⟨A2, n2, c2, rfl, HP.out, HB.out⟩
end

end Go.Proofs.YtjpoolddgocbbaaGreatDoor

/- What package rat's Add, Sub and Mul answer, as contracts over memory. Conditions: sizes of at most so many limbs. -/
namespace Go.Proofs.YtjpoolddgocbbaaGreatDoor
open Go.RowKit Limb
set_option linter.unusedVariables false
section
variable {w : World} {s s' : Bool} {A B A' B' : Option Addr} {n c m d n' c' m' d' : Nat} {xs ys xs' ys' : List Nat} {x y : Int} {o o' : Option Rat} {a b L L' : Nat}
set_option maxHeartbeats 4000000 in
set_option maxRecDepth 100000 in
theorem rAdd_c (hx : QQ w s A n c xs B m d ys o L) (hx' : QQ w s' A' n' c' xs' B' m' d' ys' o' L') (h1 : L ≤ 1000) (h2 : L' ≤ 1000) (r : Option Rat) (e : Int) (hR : addR o o' = (r, e)) :
    Calls Tryz.prog 19 #[.agg #[.bool s, .slice A n c, .slice B m d], .agg #[.bool s', .slice A' n' c', .slice B' m' d']] w fun ee w' => ∃ A2 n2 c2 B2 m2 d2, ee = .returned (.tuple #[.agg #[.bool (sg (oTop r)), .slice A2 n2 c2, .slice B2 m2 d2], .int .i64 e]) ∧ QT w' A2 n2 c2 B2 m2 d2 r ∧ Below w.heap.size w w' := by
  cases o with
  | none =>
    have hR2 : ((none : Option Rat), (1 : Int)) = (r, e) := hR
    cases hR2
    clear hR
    have b0 := below_new w (.cells #[Value.bool s, Value.slice A n c, Value.slice B m d] 28)
    have b1 := below_new (w.alloc (.cells #[Value.bool s, Value.slice A n c, Value.slice B m d] 28)) (.cells #[Value.bool s', Value.slice A' n' c', Value.slice B' m' d'] 28)
    have b2 := below_new ((w.alloc (.cells #[Value.bool s, Value.slice A n c, Value.slice B m d] 28)).alloc (.cells #[Value.bool s', Value.slice A' n' c', Value.slice B' m' d'] 28)) (.cells #[Value.bool false, Value.slice none 0 0, Value.slice none 0 0] 28)
    have HW := Lib.hid (below_two (below_two b0 b1) b2)
    have HQ0 := Lib.hid (hx.below HW.out)
    have HQ1 := Lib.hid (hx'.below HW.out)
    have r0 := ((row3_new w 28 (.bool s) (.slice A n c) (.slice B m d)).below b1).below b2
    have r1 := (row3_new (w.alloc (.cells #[Value.bool s, Value.slice A n c, Value.slice B m d] 28)) 28 (.bool s') (.slice A' n' c') (.slice B' m' d')).below b2
    have rz := row3_new ((w.alloc (.cells #[Value.bool s, Value.slice A n c, Value.slice B m d] 28)).alloc (.cells #[Value.bool s', Value.slice A' n' c', Value.slice B' m' d'] 28)) 28 (.bool false) (.slice none 0 0) (.slice none 0 0)
    simp only [World.size_alloc] at r1 rz
    clear b0 b1 b2 hx hx'
    go_enter Tryz.func19, Tryz.ntmps19
    go_wp2_with fail
    generalize ((w.alloc (.cells #[Value.bool s, Value.slice A n c, Value.slice B m d] 28)).alloc (.cells #[Value.bool s', Value.slice A' n' c', Value.slice B' m' d'] 28)).alloc (.cells #[Value.bool false, Value.slice none 0 0, Value.slice none 0 0] 28) = w1 at *
    have HR0 := Lib.hid r0
    have HR1 := Lib.hid r1
    have HZ := Lib.hid rz
    have Hq : RowKit.Hid (w.heap.size ≤ w.heap.size + 1 + 1) := by show _ ≤ _; omega
    clear r0 r1 rz
    refine (rGood_c HQ0.out (by omega) false rfl).mono ?_
    rintro e w2 ⟨rfl, bn⟩
    replace HQ0 := Lib.hid (HQ0.out.below bn)
    replace HR0 := Lib.hid (HR0.out.below bn)
    replace HQ1 := Lib.hid (HQ1.out.below bn)
    replace HR1 := Lib.hid (HR1.out.below bn)
    replace HZ := Lib.hid (HZ.out.below bn)
    replace HW := Lib.hid (below_two HW.out bn)
    clear bn
    have e0 := HZ.out.c0
    have e1 := HZ.out.c1
    have e2 := HZ.out.c2
    have f0 := HZ.out.free 0
    have f1 := HZ.out.free 1
    have f2 := HZ.out.free 2
    have HF := Lib.hid (HZ.out.fill (.bool false) (.slice none 0 0) (.slice none 0 0))
    have HB := Lib.hid (below_fill3' HW.out Hq.out (.bool false) (.slice none 0 0) (.slice none 0 0))
    go_wp2
    refine bodyPost_ret (results_mixed rfl _ _ _ 28 #[.bool false, .slice none 0 0, .slice none 0 0] (0, 0) _ (.int .i64 1) rfl rfl HF.out Tryz.underlying28 rfl rat_size) rfl ?_
    exact ⟨none, 0, 0, none, 0, 0, rfl, qt_none _ 0 0, HB.out⟩
  | some p =>
    cases o' with
    | none =>
      have hR2 : ((none : Option Rat), (1 : Int)) = (r, e) := hR
      cases hR2
      clear hR
      have b0 := below_new w (.cells #[Value.bool s, Value.slice A n c, Value.slice B m d] 28)
      have b1 := below_new (w.alloc (.cells #[Value.bool s, Value.slice A n c, Value.slice B m d] 28)) (.cells #[Value.bool s', Value.slice A' n' c', Value.slice B' m' d'] 28)
      have b2 := below_new ((w.alloc (.cells #[Value.bool s, Value.slice A n c, Value.slice B m d] 28)).alloc (.cells #[Value.bool s', Value.slice A' n' c', Value.slice B' m' d'] 28)) (.cells #[Value.bool false, Value.slice none 0 0, Value.slice none 0 0] 28)
      have HW := Lib.hid (below_two (below_two b0 b1) b2)
      have HQ0 := Lib.hid (hx.below HW.out)
      have HQ1 := Lib.hid (hx'.below HW.out)
      have r0 := ((row3_new w 28 (.bool s) (.slice A n c) (.slice B m d)).below b1).below b2
      have r1 := (row3_new (w.alloc (.cells #[Value.bool s, Value.slice A n c, Value.slice B m d] 28)) 28 (.bool s') (.slice A' n' c') (.slice B' m' d')).below b2
      have rz := row3_new ((w.alloc (.cells #[Value.bool s, Value.slice A n c, Value.slice B m d] 28)).alloc (.cells #[Value.bool s', Value.slice A' n' c', Value.slice B' m' d'] 28)) 28 (.bool false) (.slice none 0 0) (.slice none 0 0)
      simp only [World.size_alloc] at r1 rz
      clear b0 b1 b2 hx hx'
      go_enter Tryz.func19, Tryz.ntmps19
      go_wp2_with fail
      generalize ((w.alloc (.cells #[Value.bool s, Value.slice A n c, Value.slice B m d] 28)).alloc (.cells #[Value.bool s', Value.slice A' n' c', Value.slice B' m' d'] 28)).alloc (.cells #[Value.bool false, Value.slice none 0 0, Value.slice none 0 0] 28) = w1 at *
      have HR0 := Lib.hid r0
      have HR1 := Lib.hid r1
      have HZ := Lib.hid rz
      have Hq : RowKit.Hid (w.heap.size ≤ w.heap.size + 1 + 1) := by show _ ≤ _; omega
      clear r0 r1 rz
      refine (rGood_c HQ0.out (by omega) true rfl).mono ?_
      rintro e w2 ⟨rfl, bn⟩
      replace HQ0 := Lib.hid (HQ0.out.below bn)
      replace HR0 := Lib.hid (HR0.out.below bn)
      replace HQ1 := Lib.hid (HQ1.out.below bn)
      replace HR1 := Lib.hid (HR1.out.below bn)
      replace HZ := Lib.hid (HZ.out.below bn)
      replace HW := Lib.hid (below_two HW.out bn)
      clear bn
      have c10 := HR1.out.c0
      have c11 := HR1.out.c1
      have c12 := HR1.out.c2
      go_wp2_with fail
      clear c10 c11 c12
      refine (rGood_c HQ1.out (by omega) false rfl).mono ?_
      rintro e w2 ⟨rfl, bn⟩
      replace HQ0 := Lib.hid (HQ0.out.below bn)
      replace HR0 := Lib.hid (HR0.out.below bn)
      replace HQ1 := Lib.hid (HQ1.out.below bn)
      replace HR1 := Lib.hid (HR1.out.below bn)
      replace HZ := Lib.hid (HZ.out.below bn)
      replace HW := Lib.hid (below_two HW.out bn)
      clear bn
      have e0 := HZ.out.c0
      have e1 := HZ.out.c1
      have e2 := HZ.out.c2
      have f0 := HZ.out.free 0
      have f1 := HZ.out.free 1
      have f2 := HZ.out.free 2
      have HF := Lib.hid (HZ.out.fill (.bool false) (.slice none 0 0) (.slice none 0 0))
      have HB := Lib.hid (below_fill3' HW.out Hq.out (.bool false) (.slice none 0 0) (.slice none 0 0))
      go_wp2
      refine bodyPost_ret (results_mixed rfl _ _ _ 28 #[.bool false, .slice none 0 0, .slice none 0 0] (0, 0) _ (.int .i64 1) rfl rfl HF.out Tryz.underlying28 rfl rat_size) rfl ?_
      exact ⟨none, 0, 0, none, 0, 0, rfl, qt_none _ 0 0, HB.out⟩
    | some q =>
      have HO : RowKit.Hid (ofR (p.num * (q.den : Int) + q.num * (p.den : Int)) (p.den * q.den) = (r, e)) := by
        show _ = _
        rw [← hR]; unfold ofR; rw [if_neg (Nat.mul_ne_zero p.den_nz q.den_nz)]
        show limR _ = limR _
        rw [add_mk]
      clear hR
      have b0 := below_new w (.cells #[Value.bool s, Value.slice A n c, Value.slice B m d] 28)
      have b1 := below_new (w.alloc (.cells #[Value.bool s, Value.slice A n c, Value.slice B m d] 28)) (.cells #[Value.bool s', Value.slice A' n' c', Value.slice B' m' d'] 28)
      have b2 := below_new ((w.alloc (.cells #[Value.bool s, Value.slice A n c, Value.slice B m d] 28)).alloc (.cells #[Value.bool s', Value.slice A' n' c', Value.slice B' m' d'] 28)) (.cells #[Value.bool false, Value.slice none 0 0, Value.slice none 0 0] 28)
      have HW := Lib.hid (below_two (below_two b0 b1) b2)
      have HQ0 := Lib.hid (hx.below HW.out)
      have HQ1 := Lib.hid (hx'.below HW.out)
      have r0 := ((row3_new w 28 (.bool s) (.slice A n c) (.slice B m d)).below b1).below b2
      have r1 := (row3_new (w.alloc (.cells #[Value.bool s, Value.slice A n c, Value.slice B m d] 28)) 28 (.bool s') (.slice A' n' c') (.slice B' m' d')).below b2
      have rz := row3_new ((w.alloc (.cells #[Value.bool s, Value.slice A n c, Value.slice B m d] 28)).alloc (.cells #[Value.bool s', Value.slice A' n' c', Value.slice B' m' d'] 28)) 28 (.bool false) (.slice none 0 0) (.slice none 0 0)
      simp only [World.size_alloc] at r1 rz
      clear b0 b1 b2 hx hx'
      go_enter Tryz.func19, Tryz.ntmps19
      go_wp2_with fail
      generalize ((w.alloc (.cells #[Value.bool s, Value.slice A n c, Value.slice B m d] 28)).alloc (.cells #[Value.bool s', Value.slice A' n' c', Value.slice B' m' d'] 28)).alloc (.cells #[Value.bool false, Value.slice none 0 0, Value.slice none 0 0] 28) = w1 at *
      have HR0 := Lib.hid r0
      have HR1 := Lib.hid r1
      have HZ := Lib.hid rz
      have Hq : RowKit.Hid (w.heap.size ≤ w.heap.size + 1 + 1) := by show _ ≤ _; omega
      clear r0 r1 rz
      refine (rGood_c HQ0.out (by omega) true rfl).mono ?_
      rintro e w2 ⟨rfl, bn⟩
      replace HQ0 := Lib.hid (HQ0.out.below bn)
      replace HR0 := Lib.hid (HR0.out.below bn)
      replace HQ1 := Lib.hid (HQ1.out.below bn)
      replace HR1 := Lib.hid (HR1.out.below bn)
      replace HZ := Lib.hid (HZ.out.below bn)
      replace HW := Lib.hid (below_two HW.out bn)
      clear bn
      have c10 := HR1.out.c0
      have c11 := HR1.out.c1
      have c12 := HR1.out.c2
      go_wp2_with fail
      clear c10 c11 c12
      refine (rGood_c HQ1.out (by omega) true rfl).mono ?_
      rintro e wS ⟨rfl, bn⟩
      replace HQ0 := Lib.hid (HQ0.out.below bn)
      replace HR0 := Lib.hid (HR0.out.below bn)
      replace HQ1 := Lib.hid (HQ1.out.below bn)
      replace HR1 := Lib.hid (HR1.out.below bn)
      replace HZ := Lib.hid (HZ.out.below bn)
      replace HW := Lib.hid (below_two HW.out bn)
      clear bn
      have HX := Lib.hid HQ0.out.some.2.2.2.2.1
      have HY := Lib.hid HQ0.out.some.2.2.2.2.2.1
      have HX1 := Lib.hid HQ1.out.some.2.2.2.2.1
      have HY1 := Lib.hid HQ1.out.some.2.2.2.2.2.1
      go_wp2_with fail
      refine region_free 15 2 [15, 16, 17, 18, 19, 20, 21, 22, 23, 24, 25, 26, 27, 28, 29] ?aF6 (fun wx => Below wS.heap.size wS wx) (fun k vv wx => match k with
          | 0 => vv = .agg #[.bool s, .slice A n c, .slice B m d]
          | 1 => vv = .agg #[.bool s', .slice A' n' c', .slice B' m' d']
          | 2 => ∃ (e0 : Option Addr) (e1 : Nat) (e2 : Nat), vv = .agg #[.bool (sg (p.num * (q.den : Int))), .slice e0 e1 e2] ∧ ZZ wx (sg (p.num * (q.den : Int))) e0 e1 e2 (limbs (p.num * (q.den : Int)).natAbs) (p.num * (q.den : Int)) 128
          | 3 => vv = .agg #[.bool s', .slice A' n' c', .slice B' m' d']
          | 4 => vv = .agg #[.bool s, .slice A n c, .slice B m d]
          | 5 => ∃ (e0 : Option Addr) (e1 : Nat) (e2 : Nat), vv = .agg #[.bool (sg (q.num * (p.den : Int))), .slice e0 e1 e2] ∧ ZZ wx (sg (q.num * (p.den : Int))) e0 e1 e2 (limbs (q.num * (p.den : Int)).natAbs) (q.num * (p.den : Int)) 128
          | 6 => ∃ (e0 : Option Addr) (e1 : Nat) (e2 : Nat), vv = .agg #[.bool (sg (p.num * (q.den : Int) + q.num * (p.den : Int))), .slice e0 e1 e2] ∧ ZZ wx (sg (p.num * (q.den : Int) + q.num * (p.den : Int))) e0 e1 e2 (limbs (p.num * (q.den : Int) + q.num * (p.den : Int)).natAbs) (p.num * (q.den : Int) + q.num * (p.den : Int)) 129
          | 7 => vv = .pointer (some ⟨w.heap.size, 2, none⟩)
          | 8 => vv = .slice B m d
          | 9 => vv = .pointer (some ⟨w.heap.size + 1, 2, none⟩)
          | 10 => vv = .slice B' m' d'
          | 11 => ∃ (e0 : Option Addr) (e1 : Nat) (e2 : Nat), vv = .slice e0 e1 e2 ∧ NN wx e0 e1 e2 (limbs (p.den * q.den)) (p.den * q.den) 128
          | 12 => ∃ (e0 : Option Addr) (e1 : Nat) (e2 : Nat) (e3 : Option Addr) (e4 : Nat) (e5 : Nat), vv = .tuple #[.agg #[.bool (sg (oTop r)), .slice e0 e1 e2, .slice e3 e4 e5], .int .i64 e] ∧ QT wx e0 e1 e2 e3 e4 e5 r
          | 13 => ∃ (e0 : Option Addr) (e1 : Nat) (e2 : Nat) (e3 : Option Addr) (e4 : Nat) (e5 : Nat), vv = .agg #[.bool (sg (oTop r)), .slice e0 e1 e2, .slice e3 e4 e5] ∧ QT wx e0 e1 e2 e3 e4 e5 r
          | _ => vv = .int .i64 e)
        (fun k => false) (by kernel_rfl) ?haF6 rfl (by kernel_rfl) (by kernel_rfl) (fun _ _ _ _ _ h => h) ?hSb6 ?hPb6 ?hS6 ?hop6 ?hfin6
      case haF6 =>
        intro vals
        simp only [fillAll, List.getElem?_cons_zero, List.getElem?_cons_succ, Act.put, List.setIfInBounds_toArray, List.set_cons_zero, List.set_cons_succ]
        exact rfl
      case hSb6 => exact fun wx w2 hb hS => below_two hS hb
      case hPb6 =>
        intro k v wa wb hb h
        match k, h with
        | 0, h => exact h
        | 1, h => exact h
        | 2, ⟨e0, e1, e2, h1, g0⟩ => exact ⟨e0, e1, e2, h1, g0.below hb⟩
        | 3, h => exact h
        | 4, h => exact h
        | 5, ⟨e0, e1, e2, h1, g0⟩ => exact ⟨e0, e1, e2, h1, g0.below hb⟩
        | 6, ⟨e0, e1, e2, h1, g0⟩ => exact ⟨e0, e1, e2, h1, g0.below hb⟩
        | 7, h => exact h
        | 8, h => exact h
        | 9, h => exact h
        | 10, h => exact h
        | 11, ⟨e0, e1, e2, h1, g0⟩ => exact ⟨e0, e1, e2, h1, g0.below hb⟩
        | 12, ⟨e0, e1, e2, e3, e4, e5, h1, g0⟩ => exact ⟨e0, e1, e2, e3, e4, e5, h1, g0.below hb⟩
        | 13, ⟨e0, e1, e2, e3, e4, e5, h1, g0⟩ => exact ⟨e0, e1, e2, e3, e4, e5, h1, g0.below hb⟩
        | _ + 14, h => exact h
      case hS6 => exact (Below.refl _ _).drew
      case hop6 =>
        refine .cons (k := 0) ?_ (.cons (k := 1) ?_ (.cons (k := 2) ?_ (.cons (k := 3) ?_ (.cons (k := 4) ?_ (.cons (k := 5) ?_ (.cons (k := 6) ?_ (.cons (k := 7) ?_ (.cons (k := 8) ?_ (.cons (k := 9) ?_ (.cons (k := 10) ?_ (.cons (k := 11) ?_ (.cons (k := 12) ?_ (.cons (k := 13) ?_ (.cons (k := 14) ?_ (.nil)))))))))))))))
        all_goals intro vals wr hS hd KC hK
        all_goals (show Oper.wp _ _ _ _ _ _; dsimp only)
        · have z0 := (HR0.out.below hS).c0
          have z1 := (HR0.out.below hS).c1
          have z2 := (HR0.out.below hS).c2
          go_simp
          refine hK _ _ rfl (Below.refl _ _) (by first | rfl | simp) (fun h => by cases h)
        · have z0 := (HR1.out.below hS).c0
          have z1 := (HR1.out.below hS).c1
          have z2 := (HR1.out.below hS).c2
          go_simp
          refine hK _ _ rfl (Below.refl _ _) (by first | rfl | simp) (fun h => by cases h)
        · have d0 : vals 0 = _ := hd 0 (by decide +kernel)
          have d1 : vals 1 = _ := hd 1 (by decide +kernel)
          rw [d0, d1]
          go_simp
          go_at_call 42
          with_reducible refine (rCross_c (HX.out.below hS) (HY1.out.below hS) (by decide) (by decide) (p.num * (q.den : Int)) rfl).mono ?_
          rintro e w2 ⟨r0, r1, r2, rfl, f0, bn_r⟩
          refine hK _ _ rfl bn_r ⟨_, _, _, rfl, f0⟩ (fun h => by cases h)
        · have z0 := (HR1.out.below hS).c0
          have z1 := (HR1.out.below hS).c1
          have z2 := (HR1.out.below hS).c2
          go_simp
          refine hK _ _ rfl (Below.refl _ _) (by first | rfl | simp) (fun h => by cases h)
        · have z0 := (HR0.out.below hS).c0
          have z1 := (HR0.out.below hS).c1
          have z2 := (HR0.out.below hS).c2
          go_simp
          refine hK _ _ rfl (Below.refl _ _) (by first | rfl | simp) (fun h => by cases h)
        · have d3 : vals 3 = _ := hd 3 (by decide +kernel)
          have d4 : vals 4 = _ := hd 4 (by decide +kernel)
          rw [d3, d4]
          go_simp
          go_at_call 42
          with_reducible refine (rCross_c (HX1.out.below hS) (HY.out.below hS) (by decide) (by decide) (q.num * (p.den : Int)) rfl).mono ?_
          rintro e w2 ⟨r0, r1, r2, rfl, f0, bn_r⟩
          refine hK _ _ rfl bn_r ⟨_, _, _, rfl, f0⟩ (fun h => by cases h)
        · obtain ⟨A_2_0, n_2_1, n_2_2, d2, h_2_0⟩ := hd 2 (by decide +kernel)
          obtain ⟨A_5_0, n_5_1, n_5_2, d5, h_5_0⟩ := hd 5 (by decide +kernel)
          rw [d2, d5]
          go_simp
          go_at_call 43
          with_reducible refine (wAdd_c h_2_0 h_5_0 129 (by decide) (by decide) (by decide) (p.num * (q.den : Int) + q.num * (p.den : Int)) rfl).mono ?_
          rintro e w2 ⟨r0, r1, r2, rfl, f0, bn_r⟩
          refine hK _ _ rfl bn_r ⟨_, _, _, rfl, f0⟩ (fun h => by cases h)
        · go_simp
          refine hK _ _ rfl (Below.refl _ _) (by first | rfl | simp) (fun h => by cases h)
        · have d7 : vals 7 = _ := hd 7 (by decide +kernel)
          rw [d7]
          have z0 := (HR0.out.below hS).c2
          go_simp
          refine hK _ _ rfl (Below.refl _ _) (by first | rfl | simp) (fun h => by cases h)
        · go_simp
          refine hK _ _ rfl (Below.refl _ _) (by first | rfl | simp) (fun h => by cases h)
        · have d9 : vals 9 = _ := hd 9 (by decide +kernel)
          rw [d9]
          have z0 := (HR1.out.below hS).c2
          go_simp
          refine hK _ _ rfl (Below.refl _ _) (by first | rfl | simp) (fun h => by cases h)
        · have d8 : vals 8 = _ := hd 8 (by decide +kernel)
          have d10 : vals 10 = _ := hd 10 (by decide +kernel)
          rw [d8, d10]
          go_simp
          go_at_call 41
          with_reducible refine (mulOf_c (HY.out.below hS) (HY1.out.below hS) 128 (by decide) (by decide) (by decide)).mono ?_
          rintro e w2 ⟨r0, r1, r2, rfl, f0, bn_r⟩
          refine hK _ _ rfl bn_r ⟨_, _, _, rfl, f0⟩ (fun h => by cases h)
        · obtain ⟨A_6_0, n_6_1, n_6_2, d6, h_6_0⟩ := hd 6 (by decide +kernel)
          obtain ⟨A_11_0, n_11_1, n_11_2, d11, h_11_0⟩ := hd 11 (by decide +kernel)
          rw [d6, d11]
          go_simp
          go_at_call 39
          with_reducible refine (rOf_c h_6_0 h_11_0 (by decide) (by decide) r e HO.out).mono ?_
          rintro e w2 ⟨r0, r1, r2, r3, r4, r5, rfl, f0, bn_r⟩
          refine hK _ _ rfl bn_r ⟨_, _, _, _, _, _, rfl, f0⟩ (fun h => by cases h)
        · obtain ⟨A_12_0, n_12_1, n_12_2, A_12_3, n_12_4, n_12_5, d12, h_12_0⟩ := hd 12 (by decide +kernel)
          rw [d12]
          go_simp
          refine hK _ _ rfl (Below.refl _ _) ⟨_, _, _, _, _, _, rfl, h_12_0⟩ (fun h => by cases h)
        · obtain ⟨A_12_0, n_12_1, n_12_2, A_12_3, n_12_4, n_12_5, d12, h_12_0⟩ := hd 12 (by decide +kernel)
          rw [d12]
          go_simp
          refine hK _ _ rfl (Below.refl _ _) rfl (fun h => by cases h)
      case hfin6 =>
        intro vals wr hS hP hne
        obtain ⟨A_13_0, n_13_1, n_13_2, A_13_3, n_13_4, n_13_5, ez_13, h_13_0⟩ := hP 13 (by decide)
        have ez_14 : vals 14 = _ := hP 14 (by decide)
        have hZ3 := HZ.out.below hS
        have hNo := hZ3.noLimb (by intro v e; cases e) (by intro v e; cases e) (by intro v e; cases e)
        have e0 := hZ3.c0
        have e1 := hZ3.c1
        have e2 := hZ3.c2
        have f0 := hZ3.free 0
        have f1 := hZ3.free 1
        have f2 := hZ3.free 2
        have HF := Lib.hid (hZ3.fill (.bool (sg (oTop r))) (.slice A_13_0 n_13_1 n_13_2) (.slice A_13_3 n_13_4 n_13_5))
        have HP := Lib.hid (QQ.fillR3 h_13_0 hNo (.bool (sg (oTop r))) (.slice A_13_0 n_13_1 n_13_2) (.slice A_13_3 n_13_4 n_13_5))
        have HB := Lib.hid (below_fill3' (below_two HW.out hS) Hq.out (.bool (sg (oTop r))) (.slice A_13_0 n_13_1 n_13_2) (.slice A_13_3 n_13_4 n_13_5))
        try dsimp only
        rw [ez_13, ez_14]
        refine wpAny_ready (rs := [15]) (by kernel_rfl) (by simp) (AllReady.cons rfl (fun KC hK => ?_) AllReady.nil)
        go_simp
        refine hK _ _ ?_
        clear hK KC
        refine wpAny_ready (rs := [16]) (by kernel_rfl) (by simp) (AllReady.cons rfl (fun KC hK => ?_) AllReady.nil)
        go_simp
        refine hK _ _ ?_
        clear hK KC
        refine wpAny_done (by kernel_rfl) ?_ _
        go_wp2
        refine bodyPost_ret (results_mixed rfl _ _ _ 28 #[.bool (sg (oTop r)), .slice A_13_0 n_13_1 n_13_2, .slice A_13_3 n_13_4 n_13_5] (0, 0) _ (.int .i64 e) rfl rfl HF.out Tryz.underlying28 rfl rat_size) rfl ?_
        exact ⟨A_13_0, n_13_1, n_13_2, A_13_3, n_13_4, n_13_5, rfl, HP.out, HB.out⟩

set_option maxHeartbeats 4000000 in
set_option maxRecDepth 100000 in
theorem rMul_c (hx : QQ w s A n c xs B m d ys o L) (hx' : QQ w s' A' n' c' xs' B' m' d' ys' o' L') (h1 : L ≤ 1000) (h2 : L' ≤ 1000) (r : Option Rat) (e : Int) (hR : mulR o o' = (r, e)) :
    Calls Tryz.prog 17 #[.agg #[.bool s, .slice A n c, .slice B m d], .agg #[.bool s', .slice A' n' c', .slice B' m' d']] w fun ee w' => ∃ A2 n2 c2 B2 m2 d2, ee = .returned (.tuple #[.agg #[.bool (sg (oTop r)), .slice A2 n2 c2, .slice B2 m2 d2], .int .i64 e]) ∧ QT w' A2 n2 c2 B2 m2 d2 r ∧ Below w.heap.size w w' := by
  cases o with
  | none =>
    have hR2 : ((none : Option Rat), (1 : Int)) = (r, e) := hR
    cases hR2
    clear hR
    have b0 := below_new w (.cells #[Value.bool s, Value.slice A n c, Value.slice B m d] 28)
    have b1 := below_new (w.alloc (.cells #[Value.bool s, Value.slice A n c, Value.slice B m d] 28)) (.cells #[Value.bool s', Value.slice A' n' c', Value.slice B' m' d'] 28)
    have b2 := below_new ((w.alloc (.cells #[Value.bool s, Value.slice A n c, Value.slice B m d] 28)).alloc (.cells #[Value.bool s', Value.slice A' n' c', Value.slice B' m' d'] 28)) (.cells #[Value.bool false, Value.slice none 0 0, Value.slice none 0 0] 28)
    have HW := Lib.hid (below_two (below_two b0 b1) b2)
    have HQ0 := Lib.hid (hx.below HW.out)
    have HQ1 := Lib.hid (hx'.below HW.out)
    have r0 := ((row3_new w 28 (.bool s) (.slice A n c) (.slice B m d)).below b1).below b2
    have r1 := (row3_new (w.alloc (.cells #[Value.bool s, Value.slice A n c, Value.slice B m d] 28)) 28 (.bool s') (.slice A' n' c') (.slice B' m' d')).below b2
    have rz := row3_new ((w.alloc (.cells #[Value.bool s, Value.slice A n c, Value.slice B m d] 28)).alloc (.cells #[Value.bool s', Value.slice A' n' c', Value.slice B' m' d'] 28)) 28 (.bool false) (.slice none 0 0) (.slice none 0 0)
    simp only [World.size_alloc] at r1 rz
    clear b0 b1 b2 hx hx'
    go_enter Tryz.func17, Tryz.ntmps17
    go_wp2_with fail
    generalize ((w.alloc (.cells #[Value.bool s, Value.slice A n c, Value.slice B m d] 28)).alloc (.cells #[Value.bool s', Value.slice A' n' c', Value.slice B' m' d'] 28)).alloc (.cells #[Value.bool false, Value.slice none 0 0, Value.slice none 0 0] 28) = w1 at *
    have HR0 := Lib.hid r0
    have HR1 := Lib.hid r1
    have HZ := Lib.hid rz
    have Hq : RowKit.Hid (w.heap.size ≤ w.heap.size + 1 + 1) := by show _ ≤ _; omega
    clear r0 r1 rz
    refine (rGood_c HQ0.out (by omega) false rfl).mono ?_
    rintro e w2 ⟨rfl, bn⟩
    replace HQ0 := Lib.hid (HQ0.out.below bn)
    replace HR0 := Lib.hid (HR0.out.below bn)
    replace HQ1 := Lib.hid (HQ1.out.below bn)
    replace HR1 := Lib.hid (HR1.out.below bn)
    replace HZ := Lib.hid (HZ.out.below bn)
    replace HW := Lib.hid (below_two HW.out bn)
    clear bn
    have e0 := HZ.out.c0
    have e1 := HZ.out.c1
    have e2 := HZ.out.c2
    have f0 := HZ.out.free 0
    have f1 := HZ.out.free 1
    have f2 := HZ.out.free 2
    have HF := Lib.hid (HZ.out.fill (.bool false) (.slice none 0 0) (.slice none 0 0))
    have HB := Lib.hid (below_fill3' HW.out Hq.out (.bool false) (.slice none 0 0) (.slice none 0 0))
    go_wp2
    refine bodyPost_ret (results_mixed rfl _ _ _ 28 #[.bool false, .slice none 0 0, .slice none 0 0] (0, 0) _ (.int .i64 1) rfl rfl HF.out Tryz.underlying28 rfl rat_size) rfl ?_
    exact ⟨none, 0, 0, none, 0, 0, rfl, qt_none _ 0 0, HB.out⟩
  | some p =>
    cases o' with
    | none =>
      have hR2 : ((none : Option Rat), (1 : Int)) = (r, e) := hR
      cases hR2
      clear hR
      have b0 := below_new w (.cells #[Value.bool s, Value.slice A n c, Value.slice B m d] 28)
      have b1 := below_new (w.alloc (.cells #[Value.bool s, Value.slice A n c, Value.slice B m d] 28)) (.cells #[Value.bool s', Value.slice A' n' c', Value.slice B' m' d'] 28)
      have b2 := below_new ((w.alloc (.cells #[Value.bool s, Value.slice A n c, Value.slice B m d] 28)).alloc (.cells #[Value.bool s', Value.slice A' n' c', Value.slice B' m' d'] 28)) (.cells #[Value.bool false, Value.slice none 0 0, Value.slice none 0 0] 28)
      have HW := Lib.hid (below_two (below_two b0 b1) b2)
      have HQ0 := Lib.hid (hx.below HW.out)
      have HQ1 := Lib.hid (hx'.below HW.out)
      have r0 := ((row3_new w 28 (.bool s) (.slice A n c) (.slice B m d)).below b1).below b2
      have r1 := (row3_new (w.alloc (.cells #[Value.bool s, Value.slice A n c, Value.slice B m d] 28)) 28 (.bool s') (.slice A' n' c') (.slice B' m' d')).below b2
      have rz := row3_new ((w.alloc (.cells #[Value.bool s, Value.slice A n c, Value.slice B m d] 28)).alloc (.cells #[Value.bool s', Value.slice A' n' c', Value.slice B' m' d'] 28)) 28 (.bool false) (.slice none 0 0) (.slice none 0 0)
      simp only [World.size_alloc] at r1 rz
      clear b0 b1 b2 hx hx'
      go_enter Tryz.func17, Tryz.ntmps17
      go_wp2_with fail
      generalize ((w.alloc (.cells #[Value.bool s, Value.slice A n c, Value.slice B m d] 28)).alloc (.cells #[Value.bool s', Value.slice A' n' c', Value.slice B' m' d'] 28)).alloc (.cells #[Value.bool false, Value.slice none 0 0, Value.slice none 0 0] 28) = w1 at *
      have HR0 := Lib.hid r0
      have HR1 := Lib.hid r1
      have HZ := Lib.hid rz
      have Hq : RowKit.Hid (w.heap.size ≤ w.heap.size + 1 + 1) := by show _ ≤ _; omega
      clear r0 r1 rz
      refine (rGood_c HQ0.out (by omega) true rfl).mono ?_
      rintro e w2 ⟨rfl, bn⟩
      replace HQ0 := Lib.hid (HQ0.out.below bn)
      replace HR0 := Lib.hid (HR0.out.below bn)
      replace HQ1 := Lib.hid (HQ1.out.below bn)
      replace HR1 := Lib.hid (HR1.out.below bn)
      replace HZ := Lib.hid (HZ.out.below bn)
      replace HW := Lib.hid (below_two HW.out bn)
      clear bn
      have c10 := HR1.out.c0
      have c11 := HR1.out.c1
      have c12 := HR1.out.c2
      go_wp2_with fail
      clear c10 c11 c12
      refine (rGood_c HQ1.out (by omega) false rfl).mono ?_
      rintro e w2 ⟨rfl, bn⟩
      replace HQ0 := Lib.hid (HQ0.out.below bn)
      replace HR0 := Lib.hid (HR0.out.below bn)
      replace HQ1 := Lib.hid (HQ1.out.below bn)
      replace HR1 := Lib.hid (HR1.out.below bn)
      replace HZ := Lib.hid (HZ.out.below bn)
      replace HW := Lib.hid (below_two HW.out bn)
      clear bn
      have e0 := HZ.out.c0
      have e1 := HZ.out.c1
      have e2 := HZ.out.c2
      have f0 := HZ.out.free 0
      have f1 := HZ.out.free 1
      have f2 := HZ.out.free 2
      have HF := Lib.hid (HZ.out.fill (.bool false) (.slice none 0 0) (.slice none 0 0))
      have HB := Lib.hid (below_fill3' HW.out Hq.out (.bool false) (.slice none 0 0) (.slice none 0 0))
      go_wp2
      refine bodyPost_ret (results_mixed rfl _ _ _ 28 #[.bool false, .slice none 0 0, .slice none 0 0] (0, 0) _ (.int .i64 1) rfl rfl HF.out Tryz.underlying28 rfl rat_size) rfl ?_
      exact ⟨none, 0, 0, none, 0, 0, rfl, qt_none _ 0 0, HB.out⟩
    | some q =>
      have HO : RowKit.Hid (ofR (p.num * q.num) (p.den * q.den) = (r, e)) := by
        show _ = _
        rw [← hR]; unfold ofR; rw [if_neg (Nat.mul_ne_zero p.den_nz q.den_nz)]
        show limR _ = limR _
        rw [mul_mk]
      clear hR
      have b0 := below_new w (.cells #[Value.bool s, Value.slice A n c, Value.slice B m d] 28)
      have b1 := below_new (w.alloc (.cells #[Value.bool s, Value.slice A n c, Value.slice B m d] 28)) (.cells #[Value.bool s', Value.slice A' n' c', Value.slice B' m' d'] 28)
      have b2 := below_new ((w.alloc (.cells #[Value.bool s, Value.slice A n c, Value.slice B m d] 28)).alloc (.cells #[Value.bool s', Value.slice A' n' c', Value.slice B' m' d'] 28)) (.cells #[Value.bool false, Value.slice none 0 0, Value.slice none 0 0] 28)
      have HW := Lib.hid (below_two (below_two b0 b1) b2)
      have HQ0 := Lib.hid (hx.below HW.out)
      have HQ1 := Lib.hid (hx'.below HW.out)
      have r0 := ((row3_new w 28 (.bool s) (.slice A n c) (.slice B m d)).below b1).below b2
      have r1 := (row3_new (w.alloc (.cells #[Value.bool s, Value.slice A n c, Value.slice B m d] 28)) 28 (.bool s') (.slice A' n' c') (.slice B' m' d')).below b2
      have rz := row3_new ((w.alloc (.cells #[Value.bool s, Value.slice A n c, Value.slice B m d] 28)).alloc (.cells #[Value.bool s', Value.slice A' n' c', Value.slice B' m' d'] 28)) 28 (.bool false) (.slice none 0 0) (.slice none 0 0)
      simp only [World.size_alloc] at r1 rz
      clear b0 b1 b2 hx hx'
      go_enter Tryz.func17, Tryz.ntmps17
      go_wp2_with fail
      generalize ((w.alloc (.cells #[Value.bool s, Value.slice A n c, Value.slice B m d] 28)).alloc (.cells #[Value.bool s', Value.slice A' n' c', Value.slice B' m' d'] 28)).alloc (.cells #[Value.bool false, Value.slice none 0 0, Value.slice none 0 0] 28) = w1 at *
      have HR0 := Lib.hid r0
      have HR1 := Lib.hid r1
      have HZ := Lib.hid rz
      have Hq : RowKit.Hid (w.heap.size ≤ w.heap.size + 1 + 1) := by show _ ≤ _; omega
      clear r0 r1 rz
      refine (rGood_c HQ0.out (by omega) true rfl).mono ?_
      rintro e w2 ⟨rfl, bn⟩
      replace HQ0 := Lib.hid (HQ0.out.below bn)
      replace HR0 := Lib.hid (HR0.out.below bn)
      replace HQ1 := Lib.hid (HQ1.out.below bn)
      replace HR1 := Lib.hid (HR1.out.below bn)
      replace HZ := Lib.hid (HZ.out.below bn)
      replace HW := Lib.hid (below_two HW.out bn)
      clear bn
      have c10 := HR1.out.c0
      have c11 := HR1.out.c1
      have c12 := HR1.out.c2
      go_wp2_with fail
      clear c10 c11 c12
      refine (rGood_c HQ1.out (by omega) true rfl).mono ?_
      rintro e wS ⟨rfl, bn⟩
      replace HQ0 := Lib.hid (HQ0.out.below bn)
      replace HR0 := Lib.hid (HR0.out.below bn)
      replace HQ1 := Lib.hid (HQ1.out.below bn)
      replace HR1 := Lib.hid (HR1.out.below bn)
      replace HZ := Lib.hid (HZ.out.below bn)
      replace HW := Lib.hid (below_two HW.out bn)
      clear bn
      have HX := Lib.hid HQ0.out.some.2.2.2.2.1
      have HY := Lib.hid HQ0.out.some.2.2.2.2.2.1
      have HX1 := Lib.hid HQ1.out.some.2.2.2.2.1
      have HY1 := Lib.hid HQ1.out.some.2.2.2.2.2.1
      go_wp2_with fail
      refine region_free 13 2 [15, 16, 17, 18, 19, 20, 21, 22, 23, 24, 25, 26, 27] ?aF8 (fun wx => Below wS.heap.size wS wx) (fun k vv wx => match k with
          | 0 => vv = .pointer (some ⟨w.heap.size, 0, none⟩)
          | 1 => vv = .agg #[.bool s, .slice A n c]
          | 2 => vv = .pointer (some ⟨w.heap.size + 1, 0, none⟩)
          | 3 => vv = .agg #[.bool s', .slice A' n' c']
          | 4 => ∃ (e0 : Option Addr) (e1 : Nat) (e2 : Nat), vv = .agg #[.bool (sg (p.num * q.num)), .slice e0 e1 e2] ∧ ZZ wx (sg (p.num * q.num)) e0 e1 e2 (limbs (p.num * q.num).natAbs) (p.num * q.num) 128
          | 5 => vv = .pointer (some ⟨w.heap.size, 2, none⟩)
          | 6 => vv = .slice B m d
          | 7 => vv = .pointer (some ⟨w.heap.size + 1, 2, none⟩)
          | 8 => vv = .slice B' m' d'
          | 9 => ∃ (e0 : Option Addr) (e1 : Nat) (e2 : Nat), vv = .slice e0 e1 e2 ∧ NN wx e0 e1 e2 (limbs (p.den * q.den)) (p.den * q.den) 128
          | 10 => ∃ (e0 : Option Addr) (e1 : Nat) (e2 : Nat) (e3 : Option Addr) (e4 : Nat) (e5 : Nat), vv = .tuple #[.agg #[.bool (sg (oTop r)), .slice e0 e1 e2, .slice e3 e4 e5], .int .i64 e] ∧ QT wx e0 e1 e2 e3 e4 e5 r
          | 11 => ∃ (e0 : Option Addr) (e1 : Nat) (e2 : Nat) (e3 : Option Addr) (e4 : Nat) (e5 : Nat), vv = .agg #[.bool (sg (oTop r)), .slice e0 e1 e2, .slice e3 e4 e5] ∧ QT wx e0 e1 e2 e3 e4 e5 r
          | _ => vv = .int .i64 e)
        (fun k => false) (by kernel_rfl) ?haF8 rfl (by kernel_rfl) (by kernel_rfl) (fun _ _ _ _ _ h => h) ?hSb8 ?hPb8 ?hS8 ?hop8 ?hfin8
      case haF8 =>
        intro vals
        simp only [fillAll, List.getElem?_cons_zero, List.getElem?_cons_succ, Act.put, List.setIfInBounds_toArray, List.set_cons_zero, List.set_cons_succ]
        exact rfl
      case hSb8 => exact fun wx w2 hb hS => below_two hS hb
      case hPb8 =>
        intro k v wa wb hb h
        match k, h with
        | 0, h => exact h
        | 1, h => exact h
        | 2, h => exact h
        | 3, h => exact h
        | 4, ⟨e0, e1, e2, h1, g0⟩ => exact ⟨e0, e1, e2, h1, g0.below hb⟩
        | 5, h => exact h
        | 6, h => exact h
        | 7, h => exact h
        | 8, h => exact h
        | 9, ⟨e0, e1, e2, h1, g0⟩ => exact ⟨e0, e1, e2, h1, g0.below hb⟩
        | 10, ⟨e0, e1, e2, e3, e4, e5, h1, g0⟩ => exact ⟨e0, e1, e2, e3, e4, e5, h1, g0.below hb⟩
        | 11, ⟨e0, e1, e2, e3, e4, e5, h1, g0⟩ => exact ⟨e0, e1, e2, e3, e4, e5, h1, g0.below hb⟩
        | _ + 12, h => exact h
      case hS8 => exact (Below.refl _ _).drew
      case hop8 =>
        refine .cons (k := 0) ?_ (.cons (k := 1) ?_ (.cons (k := 2) ?_ (.cons (k := 3) ?_ (.cons (k := 4) ?_ (.cons (k := 5) ?_ (.cons (k := 6) ?_ (.cons (k := 7) ?_ (.cons (k := 8) ?_ (.cons (k := 9) ?_ (.cons (k := 10) ?_ (.cons (k := 11) ?_ (.cons (k := 12) ?_ (.nil)))))))))))))
        all_goals intro vals wr hS hd KC hK
        all_goals (show Oper.wp _ _ _ _ _ _; dsimp only)
        · go_simp
          refine hK _ _ rfl (Below.refl _ _) (by first | rfl | simp) (fun h => by cases h)
        · have d0 : vals 0 = _ := hd 0 (by decide +kernel)
          rw [d0]
          have z0 := (HR0.out.below hS).c0
          have z1 := (HR0.out.below hS).c1
          go_simp
          refine hK _ _ rfl (Below.refl _ _) (by first | rfl | simp) (fun h => by cases h)
        · go_simp
          refine hK _ _ rfl (Below.refl _ _) (by first | rfl | simp) (fun h => by cases h)
        · have d2 : vals 2 = _ := hd 2 (by decide +kernel)
          rw [d2]
          have z0 := (HR1.out.below hS).c0
          have z1 := (HR1.out.below hS).c1
          go_simp
          refine hK _ _ rfl (Below.refl _ _) (by first | rfl | simp) (fun h => by cases h)
        · have d1 : vals 1 = _ := hd 1 (by decide +kernel)
          have d3 : vals 3 = _ := hd 3 (by decide +kernel)
          rw [d1, d3]
          go_simp
          go_at_call 40
          with_reducible refine (wMul_c (HX.out.below hS) (HX1.out.below hS) 128 (by decide) (by decide) (by decide) (p.num * q.num) rfl).mono ?_
          rintro e w2 ⟨r0, r1, r2, rfl, f0, bn_r⟩
          refine hK _ _ rfl bn_r ⟨_, _, _, rfl, f0⟩ (fun h => by cases h)
        · go_simp
          refine hK _ _ rfl (Below.refl _ _) (by first | rfl | simp) (fun h => by cases h)
        · have d5 : vals 5 = _ := hd 5 (by decide +kernel)
          rw [d5]
          have z0 := (HR0.out.below hS).c2
          go_simp
          refine hK _ _ rfl (Below.refl _ _) (by first | rfl | simp) (fun h => by cases h)
        · go_simp
          refine hK _ _ rfl (Below.refl _ _) (by first | rfl | simp) (fun h => by cases h)
        · have d7 : vals 7 = _ := hd 7 (by decide +kernel)
          rw [d7]
          have z0 := (HR1.out.below hS).c2
          go_simp
          refine hK _ _ rfl (Below.refl _ _) (by first | rfl | simp) (fun h => by cases h)
        · have d6 : vals 6 = _ := hd 6 (by decide +kernel)
          have d8 : vals 8 = _ := hd 8 (by decide +kernel)
          rw [d6, d8]
          go_simp
          go_at_call 41
          with_reducible refine (mulOf_c (HY.out.below hS) (HY1.out.below hS) 128 (by decide) (by decide) (by decide)).mono ?_
          rintro e w2 ⟨r0, r1, r2, rfl, f0, bn_r⟩
          refine hK _ _ rfl bn_r ⟨_, _, _, rfl, f0⟩ (fun h => by cases h)
        · obtain ⟨A_4_0, n_4_1, n_4_2, d4, h_4_0⟩ := hd 4 (by decide +kernel)
          obtain ⟨A_9_0, n_9_1, n_9_2, d9, h_9_0⟩ := hd 9 (by decide +kernel)
          rw [d4, d9]
          go_simp
          go_at_call 39
          with_reducible refine (rOf_c h_4_0 h_9_0 (by decide) (by decide) r e HO.out).mono ?_
          rintro e w2 ⟨r0, r1, r2, r3, r4, r5, rfl, f0, bn_r⟩
          refine hK _ _ rfl bn_r ⟨_, _, _, _, _, _, rfl, f0⟩ (fun h => by cases h)
        · obtain ⟨A_10_0, n_10_1, n_10_2, A_10_3, n_10_4, n_10_5, d10, h_10_0⟩ := hd 10 (by decide +kernel)
          rw [d10]
          go_simp
          refine hK _ _ rfl (Below.refl _ _) ⟨_, _, _, _, _, _, rfl, h_10_0⟩ (fun h => by cases h)
        · obtain ⟨A_10_0, n_10_1, n_10_2, A_10_3, n_10_4, n_10_5, d10, h_10_0⟩ := hd 10 (by decide +kernel)
          rw [d10]
          go_simp
          refine hK _ _ rfl (Below.refl _ _) rfl (fun h => by cases h)
      case hfin8 =>
        intro vals wr hS hP hne
        obtain ⟨A_11_0, n_11_1, n_11_2, A_11_3, n_11_4, n_11_5, ez_11, h_11_0⟩ := hP 11 (by decide)
        have ez_12 : vals 12 = _ := hP 12 (by decide)
        have hZ3 := HZ.out.below hS
        have hNo := hZ3.noLimb (by intro v e; cases e) (by intro v e; cases e) (by intro v e; cases e)
        have e0 := hZ3.c0
        have e1 := hZ3.c1
        have e2 := hZ3.c2
        have f0 := hZ3.free 0
        have f1 := hZ3.free 1
        have f2 := hZ3.free 2
        have HF := Lib.hid (hZ3.fill (.bool (sg (oTop r))) (.slice A_11_0 n_11_1 n_11_2) (.slice A_11_3 n_11_4 n_11_5))
        have HP := Lib.hid (QQ.fillR3 h_11_0 hNo (.bool (sg (oTop r))) (.slice A_11_0 n_11_1 n_11_2) (.slice A_11_3 n_11_4 n_11_5))
        have HB := Lib.hid (below_fill3' (below_two HW.out hS) Hq.out (.bool (sg (oTop r))) (.slice A_11_0 n_11_1 n_11_2) (.slice A_11_3 n_11_4 n_11_5))
        try dsimp only
        rw [ez_11, ez_12]
        refine wpAny_ready (rs := [13]) (by kernel_rfl) (by simp) (AllReady.cons rfl (fun KC hK => ?_) AllReady.nil)
        go_simp
        refine hK _ _ ?_
        clear hK KC
        refine wpAny_ready (rs := [14]) (by kernel_rfl) (by simp) (AllReady.cons rfl (fun KC hK => ?_) AllReady.nil)
        go_simp
        refine hK _ _ ?_
        clear hK KC
        refine wpAny_done (by kernel_rfl) ?_ _
        go_wp2
        refine bodyPost_ret (results_mixed rfl _ _ _ 28 #[.bool (sg (oTop r)), .slice A_11_0 n_11_1 n_11_2, .slice A_11_3 n_11_4 n_11_5] (0, 0) _ (.int .i64 e) rfl rfl HF.out Tryz.underlying28 rfl rat_size) rfl ?_
        exact ⟨A_11_0, n_11_1, n_11_2, A_11_3, n_11_4, n_11_5, rfl, HP.out, HB.out⟩

end
end Go.Proofs.YtjpoolddgocbbaaGreatDoor

/- What package rat's Div answers, as a contract over memory. Conditions: sizes of at most so many limbs. -/
namespace Go.Proofs.YtjpoolddgocbbaaGreatDoor
open Go.RowKit Limb
set_option linter.unusedVariables false
section
variable {w : World} {s s' : Bool} {A B A' B' : Option Addr} {n c m d n' c' m' d' : Nat} {xs ys xs' ys' : List Nat} {x y : Int} {o o' : Option Rat} {a b L L' : Nat}
set_option maxHeartbeats 4000000 in
set_option maxRecDepth 100000 in
theorem rDiv_c (hx : QQ w s A n c xs B m d ys o L) (hx' : QQ w s' A' n' c' xs' B' m' d' ys' o' L') (h1 : L ≤ 1000) (h2 : L' ≤ 1000) (r : Option Rat) (e : Int) (hR : divR o o' = (r, e)) :
    Calls Tryz.prog 18 #[.agg #[.bool s, .slice A n c, .slice B m d], .agg #[.bool s', .slice A' n' c', .slice B' m' d']] w fun ee w' => ∃ A2 n2 c2 B2 m2 d2, ee = .returned (.tuple #[.agg #[.bool (sg (oTop r)), .slice A2 n2 c2, .slice B2 m2 d2], .int .i64 e]) ∧ QT w' A2 n2 c2 B2 m2 d2 r ∧ Below w.heap.size w w' := by
  cases o with
  | none =>
    have hR2 : ((none : Option Rat), (1 : Int)) = (r, e) := hR
    cases hR2
    clear hR
    have b0 := below_new w (.cells #[Value.bool s, Value.slice A n c, Value.slice B m d] 28)
    have b1 := below_new (w.alloc (.cells #[Value.bool s, Value.slice A n c, Value.slice B m d] 28)) (.cells #[Value.bool s', Value.slice A' n' c', Value.slice B' m' d'] 28)
    have b2 := below_new ((w.alloc (.cells #[Value.bool s, Value.slice A n c, Value.slice B m d] 28)).alloc (.cells #[Value.bool s', Value.slice A' n' c', Value.slice B' m' d'] 28)) (.cells #[Value.bool false, Value.slice none 0 0, Value.slice none 0 0] 28)
    have HW := Lib.hid (below_two (below_two b0 b1) b2)
    have HQ0 := Lib.hid (hx.below HW.out)
    have HQ1 := Lib.hid (hx'.below HW.out)
    have r0 := ((row3_new w 28 (.bool s) (.slice A n c) (.slice B m d)).below b1).below b2
    have r1 := (row3_new (w.alloc (.cells #[Value.bool s, Value.slice A n c, Value.slice B m d] 28)) 28 (.bool s') (.slice A' n' c') (.slice B' m' d')).below b2
    have rz := row3_new ((w.alloc (.cells #[Value.bool s, Value.slice A n c, Value.slice B m d] 28)).alloc (.cells #[Value.bool s', Value.slice A' n' c', Value.slice B' m' d'] 28)) 28 (.bool false) (.slice none 0 0) (.slice none 0 0)
    simp only [World.size_alloc] at r1 rz
    clear b0 b1 b2 hx hx'
    go_enter Tryz.func18, Tryz.ntmps18
    go_wp2_with fail
    generalize ((w.alloc (.cells #[Value.bool s, Value.slice A n c, Value.slice B m d] 28)).alloc (.cells #[Value.bool s', Value.slice A' n' c', Value.slice B' m' d'] 28)).alloc (.cells #[Value.bool false, Value.slice none 0 0, Value.slice none 0 0] 28) = w1 at *
    have HR0 := Lib.hid r0
    have HR1 := Lib.hid r1
    have HZ := Lib.hid rz
    have Hq : RowKit.Hid (w.heap.size ≤ w.heap.size + 1 + 1) := by show _ ≤ _; omega
    clear r0 r1 rz
    refine (rGood_c HQ0.out (by omega) false rfl).mono ?_
    rintro e w2 ⟨rfl, bn⟩
    replace HQ0 := Lib.hid (HQ0.out.below bn)
    replace HR0 := Lib.hid (HR0.out.below bn)
    replace HQ1 := Lib.hid (HQ1.out.below bn)
    replace HR1 := Lib.hid (HR1.out.below bn)
    replace HZ := Lib.hid (HZ.out.below bn)
    replace HW := Lib.hid (below_two HW.out bn)
    clear bn
    have e0 := HZ.out.c0
    have e1 := HZ.out.c1
    have e2 := HZ.out.c2
    have f0 := HZ.out.free 0
    have f1 := HZ.out.free 1
    have f2 := HZ.out.free 2
    have HF := Lib.hid (HZ.out.fill (.bool false) (.slice none 0 0) (.slice none 0 0))
    have HB := Lib.hid (below_fill3' HW.out Hq.out (.bool false) (.slice none 0 0) (.slice none 0 0))
    go_wp2
    refine bodyPost_ret (results_mixed rfl _ _ _ 28 #[.bool false, .slice none 0 0, .slice none 0 0] (0, 0) _ (.int .i64 1) rfl rfl HF.out Tryz.underlying28 rfl rat_size) rfl ?_
    exact ⟨none, 0, 0, none, 0, 0, rfl, qt_none _ 0 0, HB.out⟩
  | some p =>
    cases o' with
    | none =>
      have hR2 : ((none : Option Rat), (1 : Int)) = (r, e) := hR
      cases hR2
      clear hR
      have b0 := below_new w (.cells #[Value.bool s, Value.slice A n c, Value.slice B m d] 28)
      have b1 := below_new (w.alloc (.cells #[Value.bool s, Value.slice A n c, Value.slice B m d] 28)) (.cells #[Value.bool s', Value.slice A' n' c', Value.slice B' m' d'] 28)
      have b2 := below_new ((w.alloc (.cells #[Value.bool s, Value.slice A n c, Value.slice B m d] 28)).alloc (.cells #[Value.bool s', Value.slice A' n' c', Value.slice B' m' d'] 28)) (.cells #[Value.bool false, Value.slice none 0 0, Value.slice none 0 0] 28)
      have HW := Lib.hid (below_two (below_two b0 b1) b2)
      have HQ0 := Lib.hid (hx.below HW.out)
      have HQ1 := Lib.hid (hx'.below HW.out)
      have r0 := ((row3_new w 28 (.bool s) (.slice A n c) (.slice B m d)).below b1).below b2
      have r1 := (row3_new (w.alloc (.cells #[Value.bool s, Value.slice A n c, Value.slice B m d] 28)) 28 (.bool s') (.slice A' n' c') (.slice B' m' d')).below b2
      have rz := row3_new ((w.alloc (.cells #[Value.bool s, Value.slice A n c, Value.slice B m d] 28)).alloc (.cells #[Value.bool s', Value.slice A' n' c', Value.slice B' m' d'] 28)) 28 (.bool false) (.slice none 0 0) (.slice none 0 0)
      simp only [World.size_alloc] at r1 rz
      clear b0 b1 b2 hx hx'
      go_enter Tryz.func18, Tryz.ntmps18
      go_wp2_with fail
      generalize ((w.alloc (.cells #[Value.bool s, Value.slice A n c, Value.slice B m d] 28)).alloc (.cells #[Value.bool s', Value.slice A' n' c', Value.slice B' m' d'] 28)).alloc (.cells #[Value.bool false, Value.slice none 0 0, Value.slice none 0 0] 28) = w1 at *
      have HR0 := Lib.hid r0
      have HR1 := Lib.hid r1
      have HZ := Lib.hid rz
      have Hq : RowKit.Hid (w.heap.size ≤ w.heap.size + 1 + 1) := by show _ ≤ _; omega
      clear r0 r1 rz
      refine (rGood_c HQ0.out (by omega) true rfl).mono ?_
      rintro e w2 ⟨rfl, bn⟩
      replace HQ0 := Lib.hid (HQ0.out.below bn)
      replace HR0 := Lib.hid (HR0.out.below bn)
      replace HQ1 := Lib.hid (HQ1.out.below bn)
      replace HR1 := Lib.hid (HR1.out.below bn)
      replace HZ := Lib.hid (HZ.out.below bn)
      replace HW := Lib.hid (below_two HW.out bn)
      clear bn
      have c10 := HR1.out.c0
      have c11 := HR1.out.c1
      have c12 := HR1.out.c2
      go_wp2_with fail
      clear c10 c11 c12
      refine (rGood_c HQ1.out (by omega) false rfl).mono ?_
      rintro e w2 ⟨rfl, bn⟩
      replace HQ0 := Lib.hid (HQ0.out.below bn)
      replace HR0 := Lib.hid (HR0.out.below bn)
      replace HQ1 := Lib.hid (HQ1.out.below bn)
      replace HR1 := Lib.hid (HR1.out.below bn)
      replace HZ := Lib.hid (HZ.out.below bn)
      replace HW := Lib.hid (below_two HW.out bn)
      clear bn
      have e0 := HZ.out.c0
      have e1 := HZ.out.c1
      have e2 := HZ.out.c2
      have f0 := HZ.out.free 0
      have f1 := HZ.out.free 1
      have f2 := HZ.out.free 2
      have HF := Lib.hid (HZ.out.fill (.bool false) (.slice none 0 0) (.slice none 0 0))
      have HB := Lib.hid (below_fill3' HW.out Hq.out (.bool false) (.slice none 0 0) (.slice none 0 0))
      go_wp2
      refine bodyPost_ret (results_mixed rfl _ _ _ 28 #[.bool false, .slice none 0 0, .slice none 0 0] (0, 0) _ (.int .i64 1) rfl rfl HF.out Tryz.underlying28 rfl rat_size) rfl ?_
      exact ⟨none, 0, 0, none, 0, 0, rfl, qt_none _ 0 0, HB.out⟩
    | some q =>
      have HO : RowKit.Hid (ofR (zOf (sg (p.num * (q.den : Int)) != sg (q.num * (p.den : Int))) (p.num * (q.den : Int)).natAbs) (q.num * (p.den : Int)).natAbs = (r, e)) := ofR_cross.trans hR
      clear hR
      have b0 := below_new w (.cells #[Value.bool s, Value.slice A n c, Value.slice B m d] 28)
      have b1 := below_new (w.alloc (.cells #[Value.bool s, Value.slice A n c, Value.slice B m d] 28)) (.cells #[Value.bool s', Value.slice A' n' c', Value.slice B' m' d'] 28)
      have b2 := below_new ((w.alloc (.cells #[Value.bool s, Value.slice A n c, Value.slice B m d] 28)).alloc (.cells #[Value.bool s', Value.slice A' n' c', Value.slice B' m' d'] 28)) (.cells #[Value.bool false, Value.slice none 0 0, Value.slice none 0 0] 28)
      have HW := Lib.hid (below_two (below_two b0 b1) b2)
      have HQ0 := Lib.hid (hx.below HW.out)
      have HQ1 := Lib.hid (hx'.below HW.out)
      have r0 := ((row3_new w 28 (.bool s) (.slice A n c) (.slice B m d)).below b1).below b2
      have r1 := (row3_new (w.alloc (.cells #[Value.bool s, Value.slice A n c, Value.slice B m d] 28)) 28 (.bool s') (.slice A' n' c') (.slice B' m' d')).below b2
      have rz := row3_new ((w.alloc (.cells #[Value.bool s, Value.slice A n c, Value.slice B m d] 28)).alloc (.cells #[Value.bool s', Value.slice A' n' c', Value.slice B' m' d'] 28)) 28 (.bool false) (.slice none 0 0) (.slice none 0 0)
      simp only [World.size_alloc] at r1 rz
      clear b0 b1 b2 hx hx'
      go_enter Tryz.func18, Tryz.ntmps18
      go_wp2_with fail
      generalize ((w.alloc (.cells #[Value.bool s, Value.slice A n c, Value.slice B m d] 28)).alloc (.cells #[Value.bool s', Value.slice A' n' c', Value.slice B' m' d'] 28)).alloc (.cells #[Value.bool false, Value.slice none 0 0, Value.slice none 0 0] 28) = w1 at *
      have HR0 := Lib.hid r0
      have HR1 := Lib.hid r1
      have HZ := Lib.hid rz
      have Hq : RowKit.Hid (w.heap.size ≤ w.heap.size + 1 + 1) := by show _ ≤ _; omega
      clear r0 r1 rz
      refine (rGood_c HQ0.out (by omega) true rfl).mono ?_
      rintro e w2 ⟨rfl, bn⟩
      replace HQ0 := Lib.hid (HQ0.out.below bn)
      replace HR0 := Lib.hid (HR0.out.below bn)
      replace HQ1 := Lib.hid (HQ1.out.below bn)
      replace HR1 := Lib.hid (HR1.out.below bn)
      replace HZ := Lib.hid (HZ.out.below bn)
      replace HW := Lib.hid (below_two HW.out bn)
      clear bn
      have c10 := HR1.out.c0
      have c11 := HR1.out.c1
      have c12 := HR1.out.c2
      go_wp2_with fail
      clear c10 c11 c12
      refine (rGood_c HQ1.out (by omega) true rfl).mono ?_
      rintro e wS ⟨rfl, bn⟩
      replace HQ0 := Lib.hid (HQ0.out.below bn)
      replace HR0 := Lib.hid (HR0.out.below bn)
      replace HQ1 := Lib.hid (HQ1.out.below bn)
      replace HR1 := Lib.hid (HR1.out.below bn)
      replace HZ := Lib.hid (HZ.out.below bn)
      replace HW := Lib.hid (below_two HW.out bn)
      clear bn
      have HX := Lib.hid HQ0.out.some.2.2.2.2.1
      have HY := Lib.hid HQ0.out.some.2.2.2.2.2.1
      have HX1 := Lib.hid HQ1.out.some.2.2.2.2.1
      have HY1 := Lib.hid HQ1.out.some.2.2.2.2.2.1
      go_wp2_with fail
      refine region_free 8 2 [17, 18, 19, 20, 21, 22, 6, 7] ?aF9 (fun wx => Below wS.heap.size wS wx) (fun k vv wx => match k with
          | 0 => vv = .agg #[.bool s, .slice A n c, .slice B m d]
          | 1 => vv = .agg #[.bool s', .slice A' n' c', .slice B' m' d']
          | 2 => ∃ (e0 : Option Addr) (e1 : Nat) (e2 : Nat), vv = .agg #[.bool (sg (p.num * (q.den : Int))), .slice e0 e1 e2] ∧ ZZ wx (sg (p.num * (q.den : Int))) e0 e1 e2 (limbs (p.num * (q.den : Int)).natAbs) (p.num * (q.den : Int)) 128
          | 3 => vv = .agg #[.bool s', .slice A' n' c', .slice B' m' d']
          | 4 => vv = .agg #[.bool s, .slice A n c, .slice B m d]
          | 5 => ∃ (e0 : Option Addr) (e1 : Nat) (e2 : Nat), vv = .agg #[.bool (sg (q.num * (p.den : Int))), .slice e0 e1 e2] ∧ ZZ wx (sg (q.num * (p.den : Int))) e0 e1 e2 (limbs (q.num * (p.den : Int)).natAbs) (q.num * (p.den : Int)) 128
          | 6 => ∃ (e0 : Nat), vv = .pointer (some ⟨e0, 0, none⟩) ∧ ZB wx e0 ∧ Over wS e0 wx
          | _ => ∃ (e0 : Nat), vv = .pointer (some ⟨e0, 0, none⟩) ∧ ZB wx e0 ∧ Over wS e0 wx)
        (fun k => k == 6 || k == 7) (by kernel_rfl) ?haF9 rfl (by kernel_rfl) (by kernel_rfl) (fun _ _ _ _ _ h => h) ?hSb9 ?hPb9 ?hS9 ?hop9 ?hfin9
      case haF9 =>
        intro vals
        simp only [fillAll, List.getElem?_cons_zero, List.getElem?_cons_succ, Act.put, List.setIfInBounds_toArray, List.set_cons_zero, List.set_cons_succ]
        exact rfl
      case hSb9 => exact fun wx w2 hb hS => below_two hS hb
      case hPb9 =>
        intro k v wa wb hb h
        match k, h with
        | 0, h => exact h
        | 1, h => exact h
        | 2, ⟨e0, e1, e2, h1, g0⟩ => exact ⟨e0, e1, e2, h1, g0.below hb⟩
        | 3, h => exact h
        | 4, h => exact h
        | 5, ⟨e0, e1, e2, h1, g0⟩ => exact ⟨e0, e1, e2, h1, g0.below hb⟩
        | 6, ⟨e0, h1, g0, g1⟩ => exact ⟨e0, h1, g0.below hb, g1.below hb⟩
        | _ + 7, ⟨e0, h1, g0, g1⟩ => exact ⟨e0, h1, g0.below hb, g1.below hb⟩
      case hS9 => exact (Below.refl _ _).drew
      case hop9 =>
        refine .cons (k := 0) ?_ (.cons (k := 1) ?_ (.cons (k := 2) ?_ (.cons (k := 3) ?_ (.cons (k := 4) ?_ (.cons (k := 5) ?_ (.cons (k := 6) ?_ (.cons (k := 7) ?_ (.nil))))))))
        all_goals intro vals wr hS hd KC hK
        all_goals (show Oper.wp _ _ _ _ _ _; dsimp only)
        · have z0 := (HR0.out.below hS).c0
          have z1 := (HR0.out.below hS).c1
          have z2 := (HR0.out.below hS).c2
          go_simp
          refine hK _ _ rfl (Below.refl _ _) (by first | rfl | simp) (fun h => by cases h)
        · have z0 := (HR1.out.below hS).c0
          have z1 := (HR1.out.below hS).c1
          have z2 := (HR1.out.below hS).c2
          go_simp
          refine hK _ _ rfl (Below.refl _ _) (by first | rfl | simp) (fun h => by cases h)
        · have d0 : vals 0 = _ := hd 0 (by decide +kernel)
          have d1 : vals 1 = _ := hd 1 (by decide +kernel)
          rw [d0, d1]
          go_simp
          go_at_call 42
          with_reducible refine (rCross_c (HX.out.below hS) (HY1.out.below hS) (by decide) (by decide) (p.num * (q.den : Int)) rfl).mono ?_
          rintro e w2 ⟨r0, r1, r2, rfl, f0, bn_r⟩
          refine hK _ _ rfl bn_r ⟨_, _, _, rfl, f0⟩ (fun h => by cases h)
        · have z0 := (HR1.out.below hS).c0
          have z1 := (HR1.out.below hS).c1
          have z2 := (HR1.out.below hS).c2
          go_simp
          refine hK _ _ rfl (Below.refl _ _) (by first | rfl | simp) (fun h => by cases h)
        · have z0 := (HR0.out.below hS).c0
          have z1 := (HR0.out.below hS).c1
          have z2 := (HR0.out.below hS).c2
          go_simp
          refine hK _ _ rfl (Below.refl _ _) (by first | rfl | simp) (fun h => by cases h)
        · have d3 : vals 3 = _ := hd 3 (by decide +kernel)
          have d4 : vals 4 = _ := hd 4 (by decide +kernel)
          rw [d3, d4]
          go_simp
          go_at_call 42
          with_reducible refine (rCross_c (HX1.out.below hS) (HY.out.below hS) (by decide) (by decide) (q.num * (p.den : Int)) rfl).mono ?_
          rintro e w2 ⟨r0, r1, r2, rfl, f0, bn_r⟩
          refine hK _ _ rfl bn_r ⟨_, _, _, rfl, f0⟩ (fun h => by cases h)
        · go_simp
          refine hK _ _ rfl (below_new _ _) ⟨_, rfl, row2_new wr 26 _ _, hS.size⟩ (fun _ => ⟨_, rfl, Nat.le_refl _, by rw [World.size_alloc]; omega⟩)
        · go_simp
          refine hK _ _ rfl (below_new _ _) ⟨_, rfl, row2_new wr 26 _ _, hS.size⟩ (fun _ => ⟨_, rfl, Nat.le_refl _, by rw [World.size_alloc]; omega⟩)
      case hfin9 =>
        intro vals wr hS hP hne
        obtain ⟨A_2_0, n_2_1, n_2_2, ez_2, h_2_0⟩ := hP 2 (by decide)
        obtain ⟨A_5_0, n_5_1, n_5_2, ez_5, h_5_0⟩ := hP 5 (by decide)
        obtain ⟨n_6_0, ez_6, h_6_0, h_6_1⟩ := hP 6 (by decide)
        obtain ⟨n_7_0, ez_7, h_7_0, h_7_1⟩ := hP 7 (by decide)
        have ne_6_7 : n_6_0 ≠ n_7_0 := hne 6 7 (by decide) (by decide) (by decide) rfl rfl _ _ ez_6 ez_7
        have ne_7_6 : n_7_0 ≠ n_6_0 := hne 7 6 (by decide) (by decide) (by decide) rfl rfl _ _ ez_7 ez_6
        have HT := Lib.hid (two_pp h_2_0 h_5_0 hS h_6_0 h_7_0 ne_6_7 h_6_1 h_7_1)
        obtain ⟨c00, c01, f00, f01⟩ := h_6_0.cells
        obtain ⟨c10, c11, f10, f11⟩ := h_7_0.cells
        try dsimp only
        rw [ez_2, ez_5, ez_6, ez_7]
        refine wpAny_ready (rs := [8]) (by kernel_rfl) (by simp) (AllReady.cons rfl (fun KC hK => ?_) AllReady.nil)
        go_simp
        refine hK _ _ ?_
        clear hK KC
        refine wpAny_ready (rs := [9]) (by kernel_rfl) (by simp) (AllReady.cons rfl (fun KC hK => ?_) AllReady.nil)
        go_simp
        refine hK _ _ ?_
        clear hK KC
        refine wpAny_done (by kernel_rfl) ?_ _
        generalize (((wr.setCell ⟨n_6_0, 0, none⟩ (.bool (sg (p.num * (q.den : Int))))).setCell ⟨n_6_0, 1, none⟩ (.slice A_2_0 n_2_1 n_2_2)).setCell ⟨n_7_0, 0, none⟩ (.bool (sg (q.num * (p.den : Int))))).setCell ⟨n_7_0, 1, none⟩ (.slice A_5_0 n_5_1 n_5_2) = w9 at *
        clear c00 c01 f00 f01 c10 c11 f10 f11
        replace HZ := Lib.hid (HZ.out.below HT.out.b)
        replace HW := Lib.hid (below_two HW.out HT.out.b)
        have y0 := HT.out.q.c0
        have y1 := HT.out.q.c1
        have y2 := HT.out.r.c0
        have y3 := HT.out.r.c1
        go_wp2_with fail
        clear y0 y1 y2 y3
        refine (rOf_c (ZZ.of HT.out.z.nn) HT.out.z'.nn (by decide) (by decide) r e HO.out).mono ?_
        rintro ee w10 ⟨A9, n9, c9, B9, m9, d9, rfl, h9, bn⟩
        have hZ3 := HZ.out.below bn
        have hNo := hZ3.noLimb (by intro v e; cases e) (by intro v e; cases e) (by intro v e; cases e)
        have e0 := hZ3.c0
        have e1 := hZ3.c1
        have e2 := hZ3.c2
        have f0 := hZ3.free 0
        have f1 := hZ3.free 1
        have f2 := hZ3.free 2
        have HF := Lib.hid (hZ3.fill (.bool (sg (oTop r))) (.slice A9 n9 c9) (.slice B9 m9 d9))
        have HP := Lib.hid (QQ.fillR3 h9 hNo (.bool (sg (oTop r))) (.slice A9 n9 c9) (.slice B9 m9 d9))
        have HB := Lib.hid (below_fill3' (below_two HW.out bn) Hq.out (.bool (sg (oTop r))) (.slice A9 n9 c9) (.slice B9 m9 d9))
        clear hNo bn h9 hZ3
        go_wp2
        refine bodyPost_ret (results_mixed rfl _ _ _ 28 #[.bool (sg (oTop r)), .slice A9 n9 c9, .slice B9 m9 d9] (0, 0) _ (.int .i64 e) rfl rfl HF.out Tryz.underlying28 rfl rat_size) rfl ?_
        exact ⟨A9, n9, c9, B9, m9, d9, rfl, HP.out, HB.out⟩

end
end Go.Proofs.YtjpoolddgocbbaaGreatDoor

/- Of any two numbers: noughts ahead and behind change no literal, an exponent moves the point. Condition: the listed tables. -/
namespace Go.Proofs.YtjpoolddgocbbaaGreatDoor.lawLiteralNoughts
open Go.ChangeShapes Go.WideShapes Go.ChangeAt Go.RowKit Limb
set_option linter.unusedVariables false

theorem one_cast : ((1 : Int) : Rat) = 1 := rfl
theorem ten_cast : ((10 : Int) : Rat) = 10 := rfl

set_option maxHeartbeats 4000000 in
set_option maxRecDepth 100000 in
theorem walk (v_a : Int) (v_b : Int) (v_n u_n t_n : Int) (w : World) (f_a : (Lit.int .u32 v_a).wf = true) (f_b : (Lit.int .u32 v_b).wf = true) (f_n : (Lit.int .u8 v_n).wf = true) (g_n : (Lit.int .u8 u_n).wf = true) (h_n : (Lit.int .u8 t_n).wf = true) (T : LTab w) :
    Calls Tryz.prog 4 #[.int .u32 v_a, .int .u32 v_b, .agg #[.int .u8 v_n, .int .u8 u_n, .int .u8 t_n]] w fun e w' => e = .returned (.bool true) ∧ Below w.heap.size w w' := by
  have HTab := Lib.hid T
  clear T
  have hw_a : 0 ≤ v_a ∧ v_a ≤ 4294967295 := by
    have e1 : IntKind.u32.min = 0 := rfl
    have e2 : IntKind.u32.max = 4294967295 := rfl
    simp only [Lit.wf, Bool.and_eq_true, decide_eq_true_eq] at f_a
    omega
  obtain ⟨A, eA⟩ : ∃ N : Nat, v_a = (N : Int) := ⟨v_a.toNat, by omega⟩
  subst eA
  have bA : A < 4294967296 := by omega
  clear hw_a f_a
  have hw_b : 0 ≤ v_b ∧ v_b ≤ 4294967295 := by
    have e1 : IntKind.u32.min = 0 := rfl
    have e2 : IntKind.u32.max = 4294967295 := rfl
    simp only [Lit.wf, Bool.and_eq_true, decide_eq_true_eq] at f_b
    omega
  obtain ⟨B, eB⟩ : ∃ N : Nat, v_b = (N : Int) := ⟨v_b.toNat, by omega⟩
  subst eB
  have bB : B < 4294967296 := by omega
  clear hw_b f_b
  obtain ⟨w0, w1⟩ := wf_byte f_n
  obtain ⟨w2, w3⟩ := wf_byte g_n
  clear f_n g_n h_n
  obtain ⟨N, eN⟩ : ∃ N : Nat, v_n % 9 = (N : Int) := ⟨(v_n % 9).toNat, by omega⟩
  have bN : N < 9 := by omega
  obtain ⟨K, eK⟩ : ∃ N : Nat, u_n % 30 = (N : Int) := ⟨(u_n % 30).toNat, by omega⟩
  have bK : K < 30 := by omega
  obtain ⟨X, Z, U, V, F0, F1, F2, F3, F4, F5, F6, F7⟩ := noughts_facts bA bB (N := N) (k := K) (by omega) (by omega)
  obtain ⟨SA, hSA⟩ : ∃ S, strOf (decT A) = S := ⟨_, rfl⟩
  have zSA : SA.size ≤ 10 := by rw [← hSA, size_strOf]; exact dec32_len bA
  have BSA : RowKit.Hid (bytesOf SA = decT A) := by show _ = _; rw [← hSA]; exact bytesOf_strOf (decT_bytes A)
  have HSA := Lib.hid hSA
  clear hSA
  obtain ⟨SB, hSB⟩ : ∃ S, strOf (decT B) = S := ⟨_, rfl⟩
  have zSB : SB.size ≤ 10 := by rw [← hSB, size_strOf]; exact dec32_len bB
  have BSB : RowKit.Hid (bytesOf SB = decT B) := by show _ = _; rw [← hSB]; exact bytesOf_strOf (decT_bytes B)
  have HSB := Lib.hid hSB
  clear hSB
  obtain ⟨SK, hSK⟩ : ∃ S, strOf (decT K) = S := ⟨_, rfl⟩
  have zSK : SK.size ≤ 2 := by rw [← hSK, size_strOf]; exact decT_len_le (Nat.lt_trans bK (by decide)) (by decide)
  have BSK : RowKit.Hid (bytesOf SK = decT K) := by show _ = _; rw [← hSK]; exact bytesOf_strOf (decT_bytes K)
  have HSK := Lib.hid hSK
  clear hSK
  have hlB : (decT B).length = SB.size := by rw [← BSB.out, length_bytesOf]
  rw [hlB] at F5
  clear hlB
  have F0 := Lib.hid F0
  have F1 := Lib.hid F1
  have F2 := Lib.hid F2
  have F3 := Lib.hid F3
  have F4 := Lib.hid F4
  have F5 := Lib.hid F5
  have F6 := Lib.hid F6
  have F7 := Lib.hid F7
  have bw := bel_refl w
  have h_rn := row3_new w 39 (.int .u8 v_n) (.int .u8 u_n) (.int .u8 t_n)
  have bn := below_new w (.cells #[Value.int .u8 v_n, Value.int .u8 u_n, Value.int .u8 t_n] 39)
  replace HTab := Lib.hid (HTab.out.below bn)
  replace bw := below_two bw bn
  clear bn
  go_enter Tryz.func4, Tryz.ntmps4
  go_wp2_with fail
  generalize w.alloc (.cells #[Value.int .u8 v_n, Value.int .u8 u_n, Value.int .u8 t_n] 39) = wP at *
  obtain ⟨q_n, eg⟩ : ∃ g, g = w.heap.size := ⟨_, rfl⟩
  rw [← eg] at h_rn ⊢
  clear eg
  go_wp2_with fail
  refine (dec_c A (by omega) _ rfl SA HSA.out _).mono ?_
  rintro e w1 ⟨rfl, bn⟩
  replace h_rn := h_rn.below bn
  replace HTab := Lib.hid (HTab.out.below bn)
  replace bw := below_two bw bn
  clear bn
  go_wp2_with fail
  refine (dec_c B (by omega) _ rfl SB HSB.out _).mono ?_
  rintro e w2 ⟨rfl, bn⟩
  replace h_rn := h_rn.below bn
  replace HTab := Lib.hid (HTab.out.below bn)
  replace bw := below_two bw bn
  clear bn
  go_wp2
  go_loopw [9, 10] (fun sv iv wr => ∃ (i : Nat) (Q : ByteArray), i ≤ N ∧ sv = .string Q ∧ iv = .int .i64 (i : Int) ∧ RowKit.Hid (bytesOf Q = List.replicate i 48) ∧ w2 = wr) (fun _ iv _ => N - (intOf iv).toNat)
  case atStart => exact ⟨0, ⟨#[]⟩, Nat.zero_le _, rfl, rfl, rfl, rfl⟩
  case round =>
    obtain ⟨i, Q, hi, rfl, rfl, HQ, rfl⟩ := hrel
    have zQ : Q.size = i := by rw [← length_bytesOf, HQ.out, List.length_replicate]
    have zQ2 : Q.size ≤ 8 := by omega
    by_cases hlt : i < N
    · have HQ2 : RowKit.Hid (bytesOf (Q ++ ⟨#[48]⟩) = List.replicate (i + 1) 48) := by
        show _ = _
        rw [bytesOf_append, HQ.out, List.replicate_succ', show bytesOf ⟨#[48]⟩ = [48] from rfl]
      clear zQ HQ
      have c_n0 := h_rn.c0
      have c_n1 := h_rn.c1
      have c_n2 := h_rn.c2
      go_wp2
      go_roundw
      case rel => exact ⟨i + 1, _, by omega, rfl, by go_num, HQ2, by first | rfl | trivial⟩
      case measure => simp [intOf]; omega
    · obtain rfl : i = N := by omega
      clear hlt hi zQ
      have BQ := HQ
      clear HQ
      have G_x : RowKit.Hid (litR (bytesOf (SA ++ ⟨#[46]⟩ ++ SB)) = (some X, 0)) := by
        show _ = _
        rw [bytesOf_append, bytesOf_append, BSA.out, show bytesOf ⟨#[46]⟩ = [46] from rfl, BSB.out, ← F0.out]
        all_goals simp
      have Z_x : RowKit.Hid ((SA ++ ⟨#[46]⟩ ++ SB).size ≤ 9223372036854775807) := by
        show _ ≤ _
        rw [ByteArray.size_append, ByteArray.size_append]
        show SA.size + 1 + SB.size ≤ _
        omega
      have G_y : RowKit.Hid (litR (bytesOf (Q ++ SA ++ ⟨#[46]⟩ ++ SB ++ Q)) = (some X, 0)) := by
        show _ = _
        rw [bytesOf_append, bytesOf_append, bytesOf_append, bytesOf_append, BQ.out, BSA.out, show bytesOf ⟨#[46]⟩ = [46] from rfl, BSB.out, ← F1.out]
        all_goals simp
      have Z_y : RowKit.Hid ((Q ++ SA ++ ⟨#[46]⟩ ++ SB ++ Q).size ≤ 9223372036854775807) := by
        show _ ≤ _
        rw [ByteArray.size_append, ByteArray.size_append, ByteArray.size_append, ByteArray.size_append]
        show Q.size + SA.size + 1 + SB.size + Q.size ≤ _
        omega
      have G_z : RowKit.Hid (litR (bytesOf (SA ++ SB)) = (some Z, 0)) := by
        show _ = _
        rw [bytesOf_append, BSA.out, BSB.out, ← F2.out]
        all_goals simp
      have Z_z : RowKit.Hid ((SA ++ SB).size ≤ 9223372036854775807) := by
        show _ ≤ _
        rw [ByteArray.size_append]
        show SA.size + SB.size ≤ _
        omega
      have G_u : RowKit.Hid (litR (bytesOf (SA ++ ⟨#[46]⟩ ++ SB ++ ⟨#[101]⟩ ++ SK)) = (some U, 0)) := by
        show _ = _
        rw [bytesOf_append, bytesOf_append, bytesOf_append, bytesOf_append, BSA.out, show bytesOf ⟨#[46]⟩ = [46] from rfl, BSB.out, show bytesOf ⟨#[101]⟩ = [101] from rfl, BSK.out, ← F3.out]
        all_goals simp
      have Z_u : RowKit.Hid ((SA ++ ⟨#[46]⟩ ++ SB ++ ⟨#[101]⟩ ++ SK).size ≤ 9223372036854775807) := by
        show _ ≤ _
        rw [ByteArray.size_append, ByteArray.size_append, ByteArray.size_append, ByteArray.size_append]
        show SA.size + 1 + SB.size + 1 + SK.size ≤ _
        omega
      have G_v : RowKit.Hid (litR (bytesOf (SA ++ ⟨#[46]⟩ ++ SB ++ ⟨#[101, 45]⟩ ++ SK)) = (some V, 0)) := by
        show _ = _
        rw [bytesOf_append, bytesOf_append, bytesOf_append, bytesOf_append, BSA.out, show bytesOf ⟨#[46]⟩ = [46] from rfl, BSB.out, show bytesOf ⟨#[101, 45]⟩ = [101, 45] from rfl, BSK.out, ← F4.out]
        all_goals simp
      have Z_v : RowKit.Hid ((SA ++ ⟨#[46]⟩ ++ SB ++ ⟨#[101, 45]⟩ ++ SK).size ≤ 9223372036854775807) := by
        show _ ≤ _
        rw [ByteArray.size_append, ByteArray.size_append, ByteArray.size_append, ByteArray.size_append]
        show SA.size + 1 + SB.size + 2 + SK.size ≤ _
        omega
      clear F0 F1 F2 F3 F4
      have c_n0 := h_rn.c0
      have c_n1 := h_rn.c1
      have c_n2 := h_rn.c2
      go_wp2_with fail
      clear c_n0 c_n1 c_n2
      refine (litParse_c _ Z_x.out _ HTab.out _ _ G_x.out).mono ?_
      rintro e w3 ⟨A_x, n_x, c_x, B_x, m_x, d_x, rfl, h_x, bn⟩
      replace h_rn := h_rn.below bn
      replace HTab := Lib.hid (HTab.out.below bn)
      replace bw := below_two bw bn
      clear bn
      have h_rx := row3_new w3 28 (.bool (sg (oTop (some X)))) (.slice A_x n_x c_x) (.slice B_x m_x d_x)
      have bn := below_new w3 (.cells #[Value.bool (sg (oTop (some X))), Value.slice A_x n_x c_x, Value.slice B_x m_x d_x] 28)
      replace h_rn := h_rn.below bn
      replace h_x := h_x.below bn
      replace HTab := Lib.hid (HTab.out.below bn)
      replace bw := below_two bw bn
      clear bn
      go_wp2_with fail
      generalize w3.alloc (.cells #[Value.bool (sg (oTop (some X))), Value.slice A_x n_x c_x, Value.slice B_x m_x d_x] 28) = w4 at *
      obtain ⟨q_x, eg⟩ : ∃ g, g = w3.heap.size := ⟨_, rfl⟩
      rw [← eg] at h_rx ⊢
      clear eg
      refine (litParse_c _ Z_y.out _ HTab.out _ _ G_y.out).mono ?_
      rintro e w5 ⟨A_y, n_y, c_y, B_y, m_y, d_y, rfl, h_y, bn⟩
      replace h_rn := h_rn.below bn
      replace h_x := h_x.below bn
      replace h_rx := h_rx.below bn
      replace HTab := Lib.hid (HTab.out.below bn)
      replace bw := below_two bw bn
      clear bn
      have h_ry := row3_new w5 28 (.bool (sg (oTop (some X)))) (.slice A_y n_y c_y) (.slice B_y m_y d_y)
      have bn := below_new w5 (.cells #[Value.bool (sg (oTop (some X))), Value.slice A_y n_y c_y, Value.slice B_y m_y d_y] 28)
      replace h_rn := h_rn.below bn
      replace h_x := h_x.below bn
      replace h_rx := h_rx.below bn
      replace h_y := h_y.below bn
      replace HTab := Lib.hid (HTab.out.below bn)
      replace bw := below_two bw bn
      clear bn
      go_wp2_with fail
      generalize w5.alloc (.cells #[Value.bool (sg (oTop (some X))), Value.slice A_y n_y c_y, Value.slice B_y m_y d_y] 28) = w6 at *
      obtain ⟨q_y, eg⟩ : ∃ g, g = w5.heap.size := ⟨_, rfl⟩
      rw [← eg] at h_ry ⊢
      clear eg
      refine (litParse_c _ Z_z.out _ HTab.out _ _ G_z.out).mono ?_
      rintro e w7 ⟨A_z, n_z, c_z, B_z, m_z, d_z, rfl, h_z, bn⟩
      replace h_rn := h_rn.below bn
      replace h_x := h_x.below bn
      replace h_rx := h_rx.below bn
      replace h_y := h_y.below bn
      replace h_ry := h_ry.below bn
      replace HTab := Lib.hid (HTab.out.below bn)
      replace bw := below_two bw bn
      clear bn
      have h_rz := row3_new w7 28 (.bool (sg (oTop (some Z)))) (.slice A_z n_z c_z) (.slice B_z m_z d_z)
      have bn := below_new w7 (.cells #[Value.bool (sg (oTop (some Z))), Value.slice A_z n_z c_z, Value.slice B_z m_z d_z] 28)
      replace h_rn := h_rn.below bn
      replace h_x := h_x.below bn
      replace h_rx := h_rx.below bn
      replace h_y := h_y.below bn
      replace h_ry := h_ry.below bn
      replace h_z := h_z.below bn
      replace HTab := Lib.hid (HTab.out.below bn)
      replace bw := below_two bw bn
      clear bn
      go_wp2_with fail
      generalize w7.alloc (.cells #[Value.bool (sg (oTop (some Z))), Value.slice A_z n_z c_z, Value.slice B_z m_z d_z] 28) = w8 at *
      obtain ⟨q_z, eg⟩ : ∃ g, g = w7.heap.size := ⟨_, rfl⟩
      rw [← eg] at h_rz ⊢
      clear eg
      refine (dec_c K (by omega) _ rfl SK HSK.out _).mono ?_
      rintro e w9 ⟨rfl, bn⟩
      replace h_rn := h_rn.below bn
      replace h_x := h_x.below bn
      replace h_rx := h_rx.below bn
      replace h_y := h_y.below bn
      replace h_ry := h_ry.below bn
      replace h_z := h_z.below bn
      replace h_rz := h_rz.below bn
      replace HTab := Lib.hid (HTab.out.below bn)
      replace bw := below_two bw bn
      clear bn
      go_wp2_with fail
      refine (litParse_c _ Z_u.out _ HTab.out _ _ G_u.out).mono ?_
      rintro e w10 ⟨A_u, n_u, c_u, B_u, m_u, d_u, rfl, h_u, bn⟩
      replace h_rn := h_rn.below bn
      replace h_x := h_x.below bn
      replace h_rx := h_rx.below bn
      replace h_y := h_y.below bn
      replace h_ry := h_ry.below bn
      replace h_z := h_z.below bn
      replace h_rz := h_rz.below bn
      replace HTab := Lib.hid (HTab.out.below bn)
      replace bw := below_two bw bn
      clear bn
      have h_ru := row3_new w10 28 (.bool (sg (oTop (some U)))) (.slice A_u n_u c_u) (.slice B_u m_u d_u)
      have bn := below_new w10 (.cells #[Value.bool (sg (oTop (some U))), Value.slice A_u n_u c_u, Value.slice B_u m_u d_u] 28)
      replace h_rn := h_rn.below bn
      replace h_x := h_x.below bn
      replace h_rx := h_rx.below bn
      replace h_y := h_y.below bn
      replace h_ry := h_ry.below bn
      replace h_z := h_z.below bn
      replace h_rz := h_rz.below bn
      replace h_u := h_u.below bn
      replace HTab := Lib.hid (HTab.out.below bn)
      replace bw := below_two bw bn
      clear bn
      go_wp2_with fail
      generalize w10.alloc (.cells #[Value.bool (sg (oTop (some U))), Value.slice A_u n_u c_u, Value.slice B_u m_u d_u] 28) = w11 at *
      obtain ⟨q_u, eg⟩ : ∃ g, g = w10.heap.size := ⟨_, rfl⟩
      rw [← eg] at h_ru ⊢
      clear eg
      refine (dec_c K (by omega) _ rfl SK HSK.out _).mono ?_
      rintro e w12 ⟨rfl, bn⟩
      replace h_rn := h_rn.below bn
      replace h_x := h_x.below bn
      replace h_rx := h_rx.below bn
      replace h_y := h_y.below bn
      replace h_ry := h_ry.below bn
      replace h_z := h_z.below bn
      replace h_rz := h_rz.below bn
      replace h_u := h_u.below bn
      replace h_ru := h_ru.below bn
      replace HTab := Lib.hid (HTab.out.below bn)
      replace bw := below_two bw bn
      clear bn
      go_wp2_with fail
      refine (litParse_c _ Z_v.out _ HTab.out _ _ G_v.out).mono ?_
      rintro e w13 ⟨A_v, n_v, c_v, B_v, m_v, d_v, rfl, h_v, bn⟩
      replace h_rn := h_rn.below bn
      replace h_x := h_x.below bn
      replace h_rx := h_rx.below bn
      replace h_y := h_y.below bn
      replace h_ry := h_ry.below bn
      replace h_z := h_z.below bn
      replace h_rz := h_rz.below bn
      replace h_u := h_u.below bn
      replace h_ru := h_ru.below bn
      replace HTab := Lib.hid (HTab.out.below bn)
      replace bw := below_two bw bn
      clear bn
      have h_rv := row3_new w13 28 (.bool (sg (oTop (some V)))) (.slice A_v n_v c_v) (.slice B_v m_v d_v)
      have bn := below_new w13 (.cells #[Value.bool (sg (oTop (some V))), Value.slice A_v n_v c_v, Value.slice B_v m_v d_v] 28)
      replace h_rn := h_rn.below bn
      replace h_x := h_x.below bn
      replace h_rx := h_rx.below bn
      replace h_y := h_y.below bn
      replace h_ry := h_ry.below bn
      replace h_z := h_z.below bn
      replace h_rz := h_rz.below bn
      replace h_u := h_u.below bn
      replace h_ru := h_ru.below bn
      replace h_v := h_v.below bn
      replace HTab := Lib.hid (HTab.out.below bn)
      replace bw := below_two bw bn
      clear bn
      have c_x0 := h_rx.c0
      have c_x1 := h_rx.c1
      have c_x2 := h_rx.c2
      have c_y0 := h_ry.c0
      have c_y1 := h_ry.c1
      have c_y2 := h_ry.c2
      go_wp2_with fail
      clear c_x0 c_x1 c_x2 c_y0 c_y1 c_y2
      generalize w13.alloc (.cells #[Value.bool (sg (oTop (some V))), Value.slice A_v n_v c_v, Value.slice B_v m_v d_v] 28) = w14 at *
      obtain ⟨q_v, eg⟩ : ∃ g, g = w13.heap.size := ⟨_, rfl⟩
      rw [← eg] at h_rv ⊢
      clear eg
      refine (keepRat_c h_x h_y (by decide) (by decide) true (keepQ rfl)).mono ?_
      rintro e w15 ⟨rfl, bn⟩
      replace h_rn := h_rn.below bn
      replace h_x := h_x.below bn
      replace h_rx := h_rx.below bn
      replace h_y := h_y.below bn
      replace h_ry := h_ry.below bn
      replace h_z := h_z.below bn
      replace h_rz := h_rz.below bn
      replace h_u := h_u.below bn
      replace h_ru := h_ru.below bn
      replace h_v := h_v.below bn
      replace h_rv := h_rv.below bn
      replace HTab := Lib.hid (HTab.out.below bn)
      replace bw := below_two bw bn
      clear bn
      go_wp2_with fail
      refine (rWhole_is 1 (by decide) (by decide) _ one_cast _).mono ?_
      rintro e w16 ⟨A_t, n_t, c_t, B_t, m_t, d_t, rfl, h_t, bn⟩
      replace h_rn := h_rn.below bn
      replace h_x := h_x.below bn
      replace h_rx := h_rx.below bn
      replace h_y := h_y.below bn
      replace h_ry := h_ry.below bn
      replace h_z := h_z.below bn
      replace h_rz := h_rz.below bn
      replace h_u := h_u.below bn
      replace h_ru := h_ru.below bn
      replace h_v := h_v.below bn
      replace h_rv := h_rv.below bn
      replace HTab := Lib.hid (HTab.out.below bn)
      replace bw := below_two bw bn
      clear bn
      have h_box := row3_new w16 28 (.bool (sg (oTop (some 1)))) (.slice A_t n_t c_t) (.slice B_t m_t d_t)
      have bB := below_new w16 (.cells #[Value.bool (sg (oTop (some 1))), Value.slice A_t n_t c_t, Value.slice B_t m_t d_t] 28)
      have h_v0 := h_t.below bB
      go_wp2
      generalize w16.alloc (.cells #[Value.bool (sg (oTop (some 1))), Value.slice A_t n_t c_t, Value.slice B_t m_t d_t] 28) = wL at *
      obtain ⟨q_t, eg⟩ : ∃ g, g = w16.heap.size := ⟨_, rfl⟩
      have HQ0 : RowKit.Hid (w16.heap.size ≤ q_t) := by show _ ≤ _; omega
      rw [← eg] at h_box ⊢
      clear eg h_t
      have HBX := Lib.hid h_box
      have HV0 := Lib.hid h_v0
      have HBB := Lib.hid bB
      clear h_box h_v0 bB
      go_loopw [13, 23] (fun ev jv wr => ∃ (j : Nat) (z : Rat) (A1 : Option Addr) (n1 c1 : Nat) (B1 : Option Addr) (m1 d1 : Nat), j ≤ SB.size ∧ ev = .int .i64 0 ∧ jv = .int .i64 (j : Int) ∧ RowKit.Hid (z = (10 : Rat) ^ j) ∧ RowKit.Hid (Row3 wr q_t 28 (.bool (sg (oTop (some z)))) (.slice A1 n1 c1) (.slice B1 m1 d1)) ∧ RowKit.Hid (QT wr A1 n1 c1 B1 m1 d1 (some z)) ∧ RowKit.Hid (Below w16.heap.size w16 wr)) (fun _ jv _ => SB.size - (intOf jv).toNat)
      case atStart => exact ⟨0, 1, _, _, _, _, _, _, Nat.zero_le _, rfl, rfl, (Rat.pow_zero _).symm, HBX, HV0, HBB⟩
      case round =>
        clear HBX HV0 HBB
        obtain ⟨j, z, A1, n1, c1, B1, m1, d1, hj, rfl, rfl, HZ, HR, HQ, HB⟩ := hrel
        by_cases hlt : j < SB.size
        · have hF := tens_step (j := j) (by omega)
          rw [← HZ.out] at hF
          obtain ⟨z2, hz2⟩ : ∃ z2, (10 : Rat) ^ (j + 1) = z2 := ⟨_, rfl⟩
          rw [hz2] at hF
          have HF := Lib.hid hF
          have HZ2 : RowKit.Hid (z2 = (10 : Rat) ^ (j + 1)) := hz2.symm
          clear hF hz2 HZ
          go_wp2
          generalize wr = wS at *
          refine region_freex 6 2 5 [135, 136, 137, 134, 138, 139] ?aF19 (fun wx => Below wS.heap.size wS wx) (fun k vv wx => match k with
              | 0 => vv = .agg #[.bool (sg (oTop (some z))), .slice A1 n1 c1, .slice B1 m1 d1]
              | 1 => ∃ (e0 : Option Addr) (e1 : Nat) (e2 : Nat) (e3 : Option Addr) (e4 : Nat) (e5 : Nat), vv = .agg #[.bool (sg (oTop (some 10))), .slice e0 e1 e2, .slice e3 e4 e5] ∧ QT wx e0 e1 e2 e3 e4 e5 (some 10)
              | 2 => ∃ (e0 : Option Addr) (e1 : Nat) (e2 : Nat) (e3 : Option Addr) (e4 : Nat) (e5 : Nat), vv = .tuple #[.agg #[.bool (sg (oTop (some z2))), .slice e0 e1 e2, .slice e3 e4 e5], .int .i64 0] ∧ QT wx e0 e1 e2 e3 e4 e5 (some z2)
              | 3 => ∃ (e0 : Option Addr) (e1 : Nat) (e2 : Nat) (e3 : Option Addr) (e4 : Nat) (e5 : Nat), vv = .tuple #[.agg #[.bool (sg (oTop (some z2))), .slice e0 e1 e2, .slice e3 e4 e5], .int .i64 0] ∧ QT wx e0 e1 e2 e3 e4 e5 (some z2)
              | 4 => ∃ (e0 : Option Addr) (e1 : Nat) (e2 : Nat) (e3 : Option Addr) (e4 : Nat) (e5 : Nat), vv = .agg #[.bool (sg (oTop (some z2))), .slice e0 e1 e2, .slice e3 e4 e5] ∧ QT wx e0 e1 e2 e3 e4 e5 (some z2)
              | _ => vv = .int .i64 0)
            (fun k => false) (by kernel_rfl) ?haF19 rfl (by kernel_rfl) (by kernel_rfl) (by decide) rfl (by kernel_rfl) (by kernel_rfl) ?hyx19 (fun _ _ _ _ _ h => h) ?hSb19 ?hPb19 ?hS19 ?hop19 ?hfin19
          case haF19 =>
            intro vals
            simp only [fillAll, List.getElem?_cons_zero, List.getElem?_cons_succ, Act.put, List.setIfInBounds_toArray, List.set_cons_zero, List.set_cons_succ]
            exact rfl
          case hyx19 =>
            intro vals wr hS hd o ho
            obtain ⟨A_3_0, n_3_1, n_3_2, A_3_3, n_3_4, n_3_5, d3, h_3_0⟩ := hd 3 (by decide) (by decide)
            cases ho
            try dsimp only
            rw [d3]
            exact ⟨rfl, _, fun _ => rfl, rfl⟩
          case hSb19 => exact fun wx w2 hb hS => below_two hS hb
          case hPb19 =>
            intro k v wa wb hb h
            match k, h with
            | 0, h => exact h
            | 1, ⟨e0, e1, e2, e3, e4, e5, h1, g0⟩ => exact ⟨e0, e1, e2, e3, e4, e5, h1, g0.below hb⟩
            | 2, ⟨e0, e1, e2, e3, e4, e5, h1, g0⟩ => exact ⟨e0, e1, e2, e3, e4, e5, h1, g0.below hb⟩
            | 3, ⟨e0, e1, e2, e3, e4, e5, h1, g0⟩ => exact ⟨e0, e1, e2, e3, e4, e5, h1, g0.below hb⟩
            | 4, ⟨e0, e1, e2, e3, e4, e5, h1, g0⟩ => exact ⟨e0, e1, e2, e3, e4, e5, h1, g0.below hb⟩
            | _ + 5, h => exact h
          case hS19 => exact (Below.refl _ _).drew
          case hop19 =>
            refine .cons (k := 0) (.plain rfl ?_) (.cons (k := 1) (.plain rfl ?_) (.cons (k := 2) (.plain rfl ?_) (.cons (k := 3) (.plain rfl ?_) (.cons (k := 4) (.plain rfl ?_) (.cons (k := 5) (.plain rfl ?_) (.nil))))))
            all_goals intro vals wr hS hd KC hK
            all_goals (show Oper.wp _ _ _ _ _ _; dsimp only)
            · have z0 := (HR.out.below hS).c0
              have z1 := (HR.out.below hS).c1
              have z2 := (HR.out.below hS).c2
              go_simp
              refine hK _ _ rfl (Below.refl _ _) (by first | rfl | simp) (fun h => by cases h)
            · go_simp
              go_at_call 16
              with_reducible refine (rWhole_is 10 (by decide) (by decide) _ ten_cast _).mono ?_
              rintro e w2 ⟨r0, r1, r2, r3, r4, r5, rfl, f0, bn_r⟩
              refine hK _ _ rfl bn_r ⟨_, _, _, _, _, _, rfl, f0⟩ (fun h => by cases h)
            · have d0 : vals 0 = _ := hd 0 (by decide +kernel)
              obtain ⟨A_1_0, n_1_1, n_1_2, A_1_3, n_1_4, n_1_5, d1, h_1_0⟩ := hd 1 (by decide +kernel)
              rw [d0, d1]
              go_simp
              go_at_call 17
              with_reducible refine (rMul_c (HQ.out.below hS) h_1_0 (by decide) (by decide) _ _ HF.out).mono ?_
              rintro e w2 ⟨r0, r1, r2, r3, r4, r5, rfl, f0, bn_r⟩
              refine hK _ _ rfl bn_r ⟨_, _, _, _, _, _, rfl, f0⟩ (fun h => by cases h)
            · obtain ⟨A_2_0, n_2_1, n_2_2, A_2_3, n_2_4, n_2_5, d2, h_2_0⟩ := hd 2 (by decide +kernel)
              rw [d2]
              go_simp
              refine hK _ _ rfl (Below.refl _ _) ⟨_, _, _, _, _, _, rfl, h_2_0⟩ (fun h => by cases h)
            · obtain ⟨A_3_0, n_3_1, n_3_2, A_3_3, n_3_4, n_3_5, d3, h_3_0⟩ := hd 3 (by decide +kernel)
              rw [d3]
              go_simp
              refine hK _ _ rfl (Below.refl _ _) ⟨_, _, _, _, _, _, rfl, h_3_0⟩ (fun h => by cases h)
            · obtain ⟨A_3_0, n_3_1, n_3_2, A_3_3, n_3_4, n_3_5, d3, h_3_0⟩ := hd 3 (by decide +kernel)
              rw [d3]
              go_simp
              refine hK _ _ rfl (Below.refl _ _) rfl (fun h => by cases h)
          case hfin19 =>
            intro vals wr hS hP hne
            obtain ⟨A_4_0, n_4_1, n_4_2, A_4_3, n_4_4, n_4_5, ez_4, h_4_0⟩ := hP 4 (by decide)
            have ez_5 : vals 5 = _ := hP 5 (by decide)
            have hR3 := HR.out.below hS
            have hNo := hR3.noLimb (by intro v e; cases e) (by intro v e; cases e) (by intro v e; cases e)
            have v0 := hR3.c0
            have v1 := hR3.c1
            have v2 := hR3.c2
            have y0 := hR3.free 0
            have y1 := hR3.free 1
            have y2 := hR3.free 2
            have HR2 := Lib.hid (hR3.fill (.bool (sg (oTop (some z2)))) (.slice A_4_0 n_4_1 n_4_2) (.slice A_4_3 n_4_4 n_4_5))
            have HQ2 := Lib.hid (QQ.fillR3 h_4_0 hNo (.bool (sg (oTop (some z2)))) (.slice A_4_0 n_4_1 n_4_2) (.slice A_4_3 n_4_4 n_4_5))
            have HB2 := Lib.hid (below_fill3' (below_two HB.out hS) HQ0.out (.bool (sg (oTop (some z2)))) (.slice A_4_0 n_4_1 n_4_2) (.slice A_4_3 n_4_4 n_4_5))
            clear hNo hR3
            try dsimp only
            rw [ez_4, ez_5]
            refine wpAny_ready (rs := [6]) (by kernel_rfl) (by simp) (AllReady.cons rfl (fun KC hK => ?_) AllReady.nil)
            go_simp
            refine hK _ _ ?_
            clear hK KC
            refine wpAny_ready (rs := [7]) (by kernel_rfl) (by simp) (AllReady.cons rfl (fun KC hK => ?_) AllReady.nil)
            go_simp
            refine hK _ _ ?_
            clear hK KC
            refine wpAny_done (by kernel_rfl) ?_ _
            go_wp2
            go_roundw
            case rel => exact ⟨j + 1, z2, A_4_0, n_4_1, n_4_2, A_4_3, n_4_4, n_4_5, hlt, rfl, by go_num, HZ2, HR2, HQ2, HB2⟩
            case measure => simp [intOf]; omega
        · obtain rfl : j = SB.size := by omega
          generalize wr = w17 at *
          have bn := HB.out
          have h_t := HQ.out
          have h_rt := HR.out
          obtain ⟨z_t, hz⟩ : ∃ y, y = z := ⟨_, rfl⟩
          subst hz
          have P_t := HZ
          obtain ⟨A_t, n_t, c_t, B_t, m_t, d_t, eg⟩ : ∃ A n c B m d, (A, n, c, B, m, d) = (A1, n1, c1, B1, m1, d1) := ⟨_, _, _, _, _, _, rfl⟩
          injection eg with e1 eg; injection eg with e2 eg; injection eg with e3 eg; injection eg with e4 eg; injection eg with e5 e6
          subst e1 e2 e3 e4 e5 e6
          clear HZ HR HQ HB hlt hj
          replace h_rn := h_rn.below bn
          replace h_x := h_x.below bn
          replace h_rx := h_rx.below bn
          replace h_y := h_y.below bn
          replace h_ry := h_ry.below bn
          replace h_z := h_z.below bn
          replace h_rz := h_rz.below bn
          replace h_u := h_u.below bn
          replace h_ru := h_ru.below bn
          replace h_v := h_v.below bn
          replace h_rv := h_rv.below bn
          replace HTab := Lib.hid (HTab.out.below bn)
          replace bw := below_two bw bn
          clear bn
          have G5 : RowKit.Hid (mulR (some X) (some z_t) = (some Z, 0)) := by show _ = _; rw [P_t.out]; exact F5.out
          have c_x0 := h_rx.c0
          have c_x1 := h_rx.c1
          have c_x2 := h_rx.c2
          have c_t0 := h_rt.c0
          have c_t1 := h_rt.c1
          have c_t2 := h_rt.c2
          go_wp2_with fail
          clear c_x0 c_x1 c_x2 c_t0 c_t1 c_t2
          refine (rMul_c h_x h_t (by decide) (by decide) _ _ G5.out).mono ?_
          rintro e w18 ⟨A_p, n_p, c_p, B_p, m_p, d_p, rfl, h_p, bn⟩
          replace h_rn := h_rn.below bn
          replace h_x := h_x.below bn
          replace h_rx := h_rx.below bn
          replace h_y := h_y.below bn
          replace h_ry := h_ry.below bn
          replace h_z := h_z.below bn
          replace h_rz := h_rz.below bn
          replace h_u := h_u.below bn
          replace h_ru := h_ru.below bn
          replace h_v := h_v.below bn
          replace h_rv := h_rv.below bn
          replace h_t := h_t.below bn
          replace h_rt := h_rt.below bn
          replace HTab := Lib.hid (HTab.out.below bn)
          replace bw := below_two bw bn
          clear bn
          have h_rp := row3_new w18 28 (.bool (sg (oTop (some Z)))) (.slice A_p n_p c_p) (.slice B_p m_p d_p)
          have bn := below_new w18 (.cells #[Value.bool (sg (oTop (some Z))), Value.slice A_p n_p c_p, Value.slice B_p m_p d_p] 28)
          replace h_rn := h_rn.below bn
          replace h_x := h_x.below bn
          replace h_rx := h_rx.below bn
          replace h_y := h_y.below bn
          replace h_ry := h_ry.below bn
          replace h_z := h_z.below bn
          replace h_rz := h_rz.below bn
          replace h_u := h_u.below bn
          replace h_ru := h_ru.below bn
          replace h_v := h_v.below bn
          replace h_rv := h_rv.below bn
          replace h_t := h_t.below bn
          replace h_rt := h_rt.below bn
          replace h_p := h_p.below bn
          replace HTab := Lib.hid (HTab.out.below bn)
          replace bw := below_two bw bn
          clear bn
          go_wp2_with fail
          generalize w18.alloc (.cells #[Value.bool (sg (oTop (some Z))), Value.slice A_p n_p c_p, Value.slice B_p m_p d_p] 28) = w19 at *
          obtain ⟨q_p, eg⟩ : ∃ g, g = w18.heap.size := ⟨_, rfl⟩
          rw [← eg] at h_rp ⊢
          clear eg
          refine (rWhole_is 1 (by decide) (by decide) _ one_cast _).mono ?_
          rintro e w20 ⟨A_s, n_s, c_s, B_s, m_s, d_s, rfl, h_s, bn⟩
          replace h_rn := h_rn.below bn
          replace h_x := h_x.below bn
          replace h_rx := h_rx.below bn
          replace h_y := h_y.below bn
          replace h_ry := h_ry.below bn
          replace h_z := h_z.below bn
          replace h_rz := h_rz.below bn
          replace h_u := h_u.below bn
          replace h_ru := h_ru.below bn
          replace h_v := h_v.below bn
          replace h_rv := h_rv.below bn
          replace h_t := h_t.below bn
          replace h_rt := h_rt.below bn
          replace h_p := h_p.below bn
          replace h_rp := h_rp.below bn
          replace HTab := Lib.hid (HTab.out.below bn)
          replace bw := below_two bw bn
          clear bn
          have h_box := row3_new w20 28 (.bool (sg (oTop (some 1)))) (.slice A_s n_s c_s) (.slice B_s m_s d_s)
          have bB := below_new w20 (.cells #[Value.bool (sg (oTop (some 1))), Value.slice A_s n_s c_s, Value.slice B_s m_s d_s] 28)
          have h_v0 := h_s.below bB
          go_wp2
          generalize w20.alloc (.cells #[Value.bool (sg (oTop (some 1))), Value.slice A_s n_s c_s, Value.slice B_s m_s d_s] 28) = wL at *
          obtain ⟨q_s, eg⟩ : ∃ g, g = w20.heap.size := ⟨_, rfl⟩
          have HQ0 : RowKit.Hid (w20.heap.size ≤ q_s) := by show _ ≤ _; omega
          rw [← eg] at h_box ⊢
          clear eg h_s
          have HBX := Lib.hid h_box
          have HV0 := Lib.hid h_v0
          have HBB := Lib.hid bB
          clear h_box h_v0 bB
          go_loopw [13, 27] (fun ev jv wr => ∃ (j : Nat) (z : Rat) (A1 : Option Addr) (n1 c1 : Nat) (B1 : Option Addr) (m1 d1 : Nat), j ≤ K ∧ ev = .int .i64 0 ∧ jv = .int .i64 (j : Int) ∧ RowKit.Hid (z = (10 : Rat) ^ j) ∧ RowKit.Hid (Row3 wr q_s 28 (.bool (sg (oTop (some z)))) (.slice A1 n1 c1) (.slice B1 m1 d1)) ∧ RowKit.Hid (QT wr A1 n1 c1 B1 m1 d1 (some z)) ∧ RowKit.Hid (Below w20.heap.size w20 wr)) (fun _ jv _ => K - (intOf jv).toNat)
          case atStart => exact ⟨0, 1, _, _, _, _, _, _, Nat.zero_le _, rfl, rfl, (Rat.pow_zero _).symm, HBX, HV0, HBB⟩
          case round =>
            clear HBX HV0 HBB
            obtain ⟨j, z, A1, n1, c1, B1, m1, d1, hj, rfl, rfl, HZ, HR, HQ, HB⟩ := hrel
            by_cases hlt : j < K
            · have hF := tens_step (j := j) (by omega)
              rw [← HZ.out] at hF
              obtain ⟨z2, hz2⟩ : ∃ z2, (10 : Rat) ^ (j + 1) = z2 := ⟨_, rfl⟩
              rw [hz2] at hF
              have HF := Lib.hid hF
              have HZ2 : RowKit.Hid (z2 = (10 : Rat) ^ (j + 1)) := hz2.symm
              clear hF hz2 HZ
              go_wp2
              generalize wr = wS at *
              refine region_freex 6 2 5 [155, 156, 157, 154, 158, 159] ?aF20 (fun wx => Below wS.heap.size wS wx) (fun k vv wx => match k with
                  | 0 => vv = .agg #[.bool (sg (oTop (some z))), .slice A1 n1 c1, .slice B1 m1 d1]
                  | 1 => ∃ (e0 : Option Addr) (e1 : Nat) (e2 : Nat) (e3 : Option Addr) (e4 : Nat) (e5 : Nat), vv = .agg #[.bool (sg (oTop (some 10))), .slice e0 e1 e2, .slice e3 e4 e5] ∧ QT wx e0 e1 e2 e3 e4 e5 (some 10)
                  | 2 => ∃ (e0 : Option Addr) (e1 : Nat) (e2 : Nat) (e3 : Option Addr) (e4 : Nat) (e5 : Nat), vv = .tuple #[.agg #[.bool (sg (oTop (some z2))), .slice e0 e1 e2, .slice e3 e4 e5], .int .i64 0] ∧ QT wx e0 e1 e2 e3 e4 e5 (some z2)
                  | 3 => ∃ (e0 : Option Addr) (e1 : Nat) (e2 : Nat) (e3 : Option Addr) (e4 : Nat) (e5 : Nat), vv = .tuple #[.agg #[.bool (sg (oTop (some z2))), .slice e0 e1 e2, .slice e3 e4 e5], .int .i64 0] ∧ QT wx e0 e1 e2 e3 e4 e5 (some z2)
                  | 4 => ∃ (e0 : Option Addr) (e1 : Nat) (e2 : Nat) (e3 : Option Addr) (e4 : Nat) (e5 : Nat), vv = .agg #[.bool (sg (oTop (some z2))), .slice e0 e1 e2, .slice e3 e4 e5] ∧ QT wx e0 e1 e2 e3 e4 e5 (some z2)
                  | _ => vv = .int .i64 0)
                (fun k => false) (by kernel_rfl) ?haF20 rfl (by kernel_rfl) (by kernel_rfl) (by decide) rfl (by kernel_rfl) (by kernel_rfl) ?hyx20 (fun _ _ _ _ _ h => h) ?hSb20 ?hPb20 ?hS20 ?hop20 ?hfin20
              case haF20 =>
                intro vals
                simp only [fillAll, List.getElem?_cons_zero, List.getElem?_cons_succ, Act.put, List.setIfInBounds_toArray, List.set_cons_zero, List.set_cons_succ]
                exact rfl
              case hyx20 =>
                intro vals wr hS hd o ho
                obtain ⟨A_3_0, n_3_1, n_3_2, A_3_3, n_3_4, n_3_5, d3, h_3_0⟩ := hd 3 (by decide) (by decide)
                cases ho
                try dsimp only
                rw [d3]
                exact ⟨rfl, _, fun _ => rfl, rfl⟩
              case hSb20 => exact fun wx w2 hb hS => below_two hS hb
              case hPb20 =>
                intro k v wa wb hb h
                match k, h with
                | 0, h => exact h
                | 1, ⟨e0, e1, e2, e3, e4, e5, h1, g0⟩ => exact ⟨e0, e1, e2, e3, e4, e5, h1, g0.below hb⟩
                | 2, ⟨e0, e1, e2, e3, e4, e5, h1, g0⟩ => exact ⟨e0, e1, e2, e3, e4, e5, h1, g0.below hb⟩
                | 3, ⟨e0, e1, e2, e3, e4, e5, h1, g0⟩ => exact ⟨e0, e1, e2, e3, e4, e5, h1, g0.below hb⟩
                | 4, ⟨e0, e1, e2, e3, e4, e5, h1, g0⟩ => exact ⟨e0, e1, e2, e3, e4, e5, h1, g0.below hb⟩
                | _ + 5, h => exact h
              case hS20 => exact (Below.refl _ _).drew
              case hop20 =>
                refine .cons (k := 0) (.plain rfl ?_) (.cons (k := 1) (.plain rfl ?_) (.cons (k := 2) (.plain rfl ?_) (.cons (k := 3) (.plain rfl ?_) (.cons (k := 4) (.plain rfl ?_) (.cons (k := 5) (.plain rfl ?_) (.nil))))))
                all_goals intro vals wr hS hd KC hK
                all_goals (show Oper.wp _ _ _ _ _ _; dsimp only)
                · have z0 := (HR.out.below hS).c0
                  have z1 := (HR.out.below hS).c1
                  have z2 := (HR.out.below hS).c2
                  go_simp
                  refine hK _ _ rfl (Below.refl _ _) (by first | rfl | simp) (fun h => by cases h)
                · go_simp
                  go_at_call 16
                  with_reducible refine (rWhole_is 10 (by decide) (by decide) _ ten_cast _).mono ?_
                  rintro e w2 ⟨r0, r1, r2, r3, r4, r5, rfl, f0, bn_r⟩
                  refine hK _ _ rfl bn_r ⟨_, _, _, _, _, _, rfl, f0⟩ (fun h => by cases h)
                · have d0 : vals 0 = _ := hd 0 (by decide +kernel)
                  obtain ⟨A_1_0, n_1_1, n_1_2, A_1_3, n_1_4, n_1_5, d1, h_1_0⟩ := hd 1 (by decide +kernel)
                  rw [d0, d1]
                  go_simp
                  go_at_call 17
                  with_reducible refine (rMul_c (HQ.out.below hS) h_1_0 (by decide) (by decide) _ _ HF.out).mono ?_
                  rintro e w2 ⟨r0, r1, r2, r3, r4, r5, rfl, f0, bn_r⟩
                  refine hK _ _ rfl bn_r ⟨_, _, _, _, _, _, rfl, f0⟩ (fun h => by cases h)
                · obtain ⟨A_2_0, n_2_1, n_2_2, A_2_3, n_2_4, n_2_5, d2, h_2_0⟩ := hd 2 (by decide +kernel)
                  rw [d2]
                  go_simp
                  refine hK _ _ rfl (Below.refl _ _) ⟨_, _, _, _, _, _, rfl, h_2_0⟩ (fun h => by cases h)
                · obtain ⟨A_3_0, n_3_1, n_3_2, A_3_3, n_3_4, n_3_5, d3, h_3_0⟩ := hd 3 (by decide +kernel)
                  rw [d3]
                  go_simp
                  refine hK _ _ rfl (Below.refl _ _) ⟨_, _, _, _, _, _, rfl, h_3_0⟩ (fun h => by cases h)
                · obtain ⟨A_3_0, n_3_1, n_3_2, A_3_3, n_3_4, n_3_5, d3, h_3_0⟩ := hd 3 (by decide +kernel)
                  rw [d3]
                  go_simp
                  refine hK _ _ rfl (Below.refl _ _) rfl (fun h => by cases h)
              case hfin20 =>
                intro vals wr hS hP hne
                obtain ⟨A_4_0, n_4_1, n_4_2, A_4_3, n_4_4, n_4_5, ez_4, h_4_0⟩ := hP 4 (by decide)
                have ez_5 : vals 5 = _ := hP 5 (by decide)
                have hR3 := HR.out.below hS
                have hNo := hR3.noLimb (by intro v e; cases e) (by intro v e; cases e) (by intro v e; cases e)
                have v0 := hR3.c0
                have v1 := hR3.c1
                have v2 := hR3.c2
                have y0 := hR3.free 0
                have y1 := hR3.free 1
                have y2 := hR3.free 2
                have HR2 := Lib.hid (hR3.fill (.bool (sg (oTop (some z2)))) (.slice A_4_0 n_4_1 n_4_2) (.slice A_4_3 n_4_4 n_4_5))
                have HQ2 := Lib.hid (QQ.fillR3 h_4_0 hNo (.bool (sg (oTop (some z2)))) (.slice A_4_0 n_4_1 n_4_2) (.slice A_4_3 n_4_4 n_4_5))
                have HB2 := Lib.hid (below_fill3' (below_two HB.out hS) HQ0.out (.bool (sg (oTop (some z2)))) (.slice A_4_0 n_4_1 n_4_2) (.slice A_4_3 n_4_4 n_4_5))
                clear hNo hR3
                try dsimp only
                rw [ez_4, ez_5]
                refine wpAny_ready (rs := [6]) (by kernel_rfl) (by simp) (AllReady.cons rfl (fun KC hK => ?_) AllReady.nil)
                go_simp
                refine hK _ _ ?_
                clear hK KC
                refine wpAny_ready (rs := [7]) (by kernel_rfl) (by simp) (AllReady.cons rfl (fun KC hK => ?_) AllReady.nil)
                go_simp
                refine hK _ _ ?_
                clear hK KC
                refine wpAny_done (by kernel_rfl) ?_ _
                go_wp2
                go_roundw
                case rel => exact ⟨j + 1, z2, A_4_0, n_4_1, n_4_2, A_4_3, n_4_4, n_4_5, hlt, rfl, by go_num, HZ2, HR2, HQ2, HB2⟩
                case measure => simp [intOf]; omega
            · obtain rfl : j = K := by omega
              generalize wr = w21 at *
              have bn := HB.out
              have h_s := HQ.out
              have h_rs := HR.out
              obtain ⟨z_s, hz⟩ : ∃ y, y = z := ⟨_, rfl⟩
              subst hz
              have P_s := HZ
              obtain ⟨A_s, n_s, c_s, B_s, m_s, d_s, eg⟩ : ∃ A n c B m d, (A, n, c, B, m, d) = (A1, n1, c1, B1, m1, d1) := ⟨_, _, _, _, _, _, rfl⟩
              injection eg with e1 eg; injection eg with e2 eg; injection eg with e3 eg; injection eg with e4 eg; injection eg with e5 e6
              subst e1 e2 e3 e4 e5 e6
              clear HZ HR HQ HB hlt hj
              replace h_rn := h_rn.below bn
              replace h_x := h_x.below bn
              replace h_rx := h_rx.below bn
              replace h_y := h_y.below bn
              replace h_ry := h_ry.below bn
              replace h_z := h_z.below bn
              replace h_rz := h_rz.below bn
              replace h_u := h_u.below bn
              replace h_ru := h_ru.below bn
              replace h_v := h_v.below bn
              replace h_rv := h_rv.below bn
              replace h_t := h_t.below bn
              replace h_rt := h_rt.below bn
              replace h_p := h_p.below bn
              replace h_rp := h_rp.below bn
              replace HTab := Lib.hid (HTab.out.below bn)
              replace bw := below_two bw bn
              clear bn
              have G6 : RowKit.Hid (mulR (some X) (some z_s) = (some U, 0)) := by show _ = _; rw [P_s.out]; exact F6.out
              have G7 : RowKit.Hid (divR (some X) (some z_s) = (some V, 0)) := by show _ = _; rw [P_s.out]; exact F7.out
              have c_x0 := h_rx.c0
              have c_x1 := h_rx.c1
              have c_x2 := h_rx.c2
              have c_s0 := h_rs.c0
              have c_s1 := h_rs.c1
              have c_s2 := h_rs.c2
              go_wp2_with fail
              clear c_x0 c_x1 c_x2 c_s0 c_s1 c_s2
              refine (rMul_c h_x h_s (by decide) (by decide) _ _ G6.out).mono ?_
              rintro e w22 ⟨A_f, n_f, c_f, B_f, m_f, d_f, rfl, h_f, bn⟩
              replace h_rn := h_rn.below bn
              replace h_x := h_x.below bn
              replace h_rx := h_rx.below bn
              replace h_y := h_y.below bn
              replace h_ry := h_ry.below bn
              replace h_z := h_z.below bn
              replace h_rz := h_rz.below bn
              replace h_u := h_u.below bn
              replace h_ru := h_ru.below bn
              replace h_v := h_v.below bn
              replace h_rv := h_rv.below bn
              replace h_t := h_t.below bn
              replace h_rt := h_rt.below bn
              replace h_p := h_p.below bn
              replace h_rp := h_rp.below bn
              replace h_s := h_s.below bn
              replace h_rs := h_rs.below bn
              replace HTab := Lib.hid (HTab.out.below bn)
              replace bw := below_two bw bn
              clear bn
              have h_rf := row3_new w22 28 (.bool (sg (oTop (some U)))) (.slice A_f n_f c_f) (.slice B_f m_f d_f)
              have bn := below_new w22 (.cells #[Value.bool (sg (oTop (some U))), Value.slice A_f n_f c_f, Value.slice B_f m_f d_f] 28)
              replace h_rn := h_rn.below bn
              replace h_x := h_x.below bn
              replace h_rx := h_rx.below bn
              replace h_y := h_y.below bn
              replace h_ry := h_ry.below bn
              replace h_z := h_z.below bn
              replace h_rz := h_rz.below bn
              replace h_u := h_u.below bn
              replace h_ru := h_ru.below bn
              replace h_v := h_v.below bn
              replace h_rv := h_rv.below bn
              replace h_t := h_t.below bn
              replace h_rt := h_rt.below bn
              replace h_p := h_p.below bn
              replace h_rp := h_rp.below bn
              replace h_s := h_s.below bn
              replace h_rs := h_rs.below bn
              replace h_f := h_f.below bn
              replace HTab := Lib.hid (HTab.out.below bn)
              replace bw := below_two bw bn
              clear bn
              have c_x0 := h_rx.c0
              have c_x1 := h_rx.c1
              have c_x2 := h_rx.c2
              have c_s0 := h_rs.c0
              have c_s1 := h_rs.c1
              have c_s2 := h_rs.c2
              go_wp2_with fail
              clear c_x0 c_x1 c_x2 c_s0 c_s1 c_s2
              generalize w22.alloc (.cells #[Value.bool (sg (oTop (some U))), Value.slice A_f n_f c_f, Value.slice B_f m_f d_f] 28) = w23 at *
              obtain ⟨q_f, eg⟩ : ∃ g, g = w22.heap.size := ⟨_, rfl⟩
              rw [← eg] at h_rf ⊢
              clear eg
              refine (rDiv_c h_x h_s (by decide) (by decide) _ _ G7.out).mono ?_
              rintro e w24 ⟨A_g, n_g, c_g, B_g, m_g, d_g, rfl, h_g, bn⟩
              replace h_rn := h_rn.below bn
              replace h_x := h_x.below bn
              replace h_rx := h_rx.below bn
              replace h_y := h_y.below bn
              replace h_ry := h_ry.below bn
              replace h_z := h_z.below bn
              replace h_rz := h_rz.below bn
              replace h_u := h_u.below bn
              replace h_ru := h_ru.below bn
              replace h_v := h_v.below bn
              replace h_rv := h_rv.below bn
              replace h_t := h_t.below bn
              replace h_rt := h_rt.below bn
              replace h_p := h_p.below bn
              replace h_rp := h_rp.below bn
              replace h_s := h_s.below bn
              replace h_rs := h_rs.below bn
              replace h_f := h_f.below bn
              replace h_rf := h_rf.below bn
              replace HTab := Lib.hid (HTab.out.below bn)
              replace bw := below_two bw bn
              clear bn
              have h_rg := row3_new w24 28 (.bool (sg (oTop (some V)))) (.slice A_g n_g c_g) (.slice B_g m_g d_g)
              have bn := below_new w24 (.cells #[Value.bool (sg (oTop (some V))), Value.slice A_g n_g c_g, Value.slice B_g m_g d_g] 28)
              replace h_rn := h_rn.below bn
              replace h_x := h_x.below bn
              replace h_rx := h_rx.below bn
              replace h_y := h_y.below bn
              replace h_ry := h_ry.below bn
              replace h_z := h_z.below bn
              replace h_rz := h_rz.below bn
              replace h_u := h_u.below bn
              replace h_ru := h_ru.below bn
              replace h_v := h_v.below bn
              replace h_rv := h_rv.below bn
              replace h_t := h_t.below bn
              replace h_rt := h_rt.below bn
              replace h_p := h_p.below bn
              replace h_rp := h_rp.below bn
              replace h_s := h_s.below bn
              replace h_rs := h_rs.below bn
              replace h_f := h_f.below bn
              replace h_rf := h_rf.below bn
              replace h_g := h_g.below bn
              replace HTab := Lib.hid (HTab.out.below bn)
              replace bw := below_two bw bn
              clear bn
              have c_p0 := h_rp.c0
              have c_p1 := h_rp.c1
              have c_p2 := h_rp.c2
              have c_z0 := h_rz.c0
              have c_z1 := h_rz.c1
              have c_z2 := h_rz.c2
              go_wp2_with fail
              clear c_p0 c_p1 c_p2 c_z0 c_z1 c_z2
              generalize w24.alloc (.cells #[Value.bool (sg (oTop (some V))), Value.slice A_g n_g c_g, Value.slice B_g m_g d_g] 28) = w25 at *
              obtain ⟨q_g, eg⟩ : ∃ g, g = w24.heap.size := ⟨_, rfl⟩
              rw [← eg] at h_rg ⊢
              clear eg
              refine (keepRat_c h_p h_z (by decide) (by decide) true (keepQ rfl)).mono ?_
              rintro e w26 ⟨rfl, bn⟩
              replace h_rn := h_rn.below bn
              replace h_x := h_x.below bn
              replace h_rx := h_rx.below bn
              replace h_y := h_y.below bn
              replace h_ry := h_ry.below bn
              replace h_z := h_z.below bn
              replace h_rz := h_rz.below bn
              replace h_u := h_u.below bn
              replace h_ru := h_ru.below bn
              replace h_v := h_v.below bn
              replace h_rv := h_rv.below bn
              replace h_t := h_t.below bn
              replace h_rt := h_rt.below bn
              replace h_p := h_p.below bn
              replace h_rp := h_rp.below bn
              replace h_s := h_s.below bn
              replace h_rs := h_rs.below bn
              replace h_f := h_f.below bn
              replace h_rf := h_rf.below bn
              replace h_g := h_g.below bn
              replace h_rg := h_rg.below bn
              replace HTab := Lib.hid (HTab.out.below bn)
              replace bw := below_two bw bn
              clear bn
              have c_u0 := h_ru.c0
              have c_u1 := h_ru.c1
              have c_u2 := h_ru.c2
              have c_f0 := h_rf.c0
              have c_f1 := h_rf.c1
              have c_f2 := h_rf.c2
              go_wp2_with fail
              clear c_u0 c_u1 c_u2 c_f0 c_f1 c_f2
              refine (keepRat_c h_u h_f (by decide) (by decide) true (keepQ rfl)).mono ?_
              rintro e w27 ⟨rfl, bn⟩
              replace h_rn := h_rn.below bn
              replace h_x := h_x.below bn
              replace h_rx := h_rx.below bn
              replace h_y := h_y.below bn
              replace h_ry := h_ry.below bn
              replace h_z := h_z.below bn
              replace h_rz := h_rz.below bn
              replace h_u := h_u.below bn
              replace h_ru := h_ru.below bn
              replace h_v := h_v.below bn
              replace h_rv := h_rv.below bn
              replace h_t := h_t.below bn
              replace h_rt := h_rt.below bn
              replace h_p := h_p.below bn
              replace h_rp := h_rp.below bn
              replace h_s := h_s.below bn
              replace h_rs := h_rs.below bn
              replace h_f := h_f.below bn
              replace h_rf := h_rf.below bn
              replace h_g := h_g.below bn
              replace h_rg := h_rg.below bn
              replace HTab := Lib.hid (HTab.out.below bn)
              replace bw := below_two bw bn
              clear bn
              have c_v0 := h_rv.c0
              have c_v1 := h_rv.c1
              have c_v2 := h_rv.c2
              have c_g0 := h_rg.c0
              have c_g1 := h_rg.c1
              have c_g2 := h_rg.c2
              go_wp2_with fail
              clear c_v0 c_v1 c_v2 c_g0 c_g1 c_g2
              refine (keepRat_c h_v h_g (by decide) (by decide) true (keepQ rfl)).mono ?_
              rintro e w28 ⟨rfl, bn⟩
              replace h_rn := h_rn.below bn
              replace h_x := h_x.below bn
              replace h_rx := h_rx.below bn
              replace h_y := h_y.below bn
              replace h_ry := h_ry.below bn
              replace h_z := h_z.below bn
              replace h_rz := h_rz.below bn
              replace h_u := h_u.below bn
              replace h_ru := h_ru.below bn
              replace h_v := h_v.below bn
              replace h_rv := h_rv.below bn
              replace h_t := h_t.below bn
              replace h_rt := h_rt.below bn
              replace h_p := h_p.below bn
              replace h_rp := h_rp.below bn
              replace h_s := h_s.below bn
              replace h_rs := h_rs.below bn
              replace h_f := h_f.below bn
              replace h_rf := h_rf.below bn
              replace h_g := h_g.below bn
              replace h_rg := h_rg.below bn
              replace HTab := Lib.hid (HTab.out.below bn)
              replace bw := below_two bw bn
              clear bn
              go_wp2_with fail
              refine (wakes_any _ HTab.out).mono ?_
              rintro e w29 ⟨rfl, bn⟩
              replace h_rn := h_rn.below bn
              replace h_x := h_x.below bn
              replace h_rx := h_rx.below bn
              replace h_y := h_y.below bn
              replace h_ry := h_ry.below bn
              replace h_z := h_z.below bn
              replace h_rz := h_rz.below bn
              replace h_u := h_u.below bn
              replace h_ru := h_ru.below bn
              replace h_v := h_v.below bn
              replace h_rv := h_rv.below bn
              replace h_t := h_t.below bn
              replace h_rt := h_rt.below bn
              replace h_p := h_p.below bn
              replace h_rp := h_rp.below bn
              replace h_s := h_s.below bn
              replace h_rs := h_rs.below bn
              replace h_f := h_f.below bn
              replace h_rf := h_rf.below bn
              replace h_g := h_g.below bn
              replace h_rg := h_rg.below bn
              replace HTab := Lib.hid (HTab.out.below bn)
              replace bw := below_two bw bn
              clear bn
              go_wp2
              go_ret
              exact ⟨rfl, bw⟩

theorem tab_of {W : World} (h : laidMet Tryz.prog Rows.literalNoughtsRow.laid W) : LTab W := by
  refine ⟨⟨?_, ?_⟩, ?_⟩
  · first | exact powers_tab (laidMet_drop 0 h) (by decide +kernel) | exact powers_tab (laidMet_drop 1 h) (by decide +kernel) | exact powers_tab (laidMet_drop 2 h) (by decide +kernel) | exact powers_tab (laidMet_drop 3 h) (by decide +kernel) | exact powers_tab (laidMet_drop 4 h) (by decide +kernel) | exact powers_tab (laidMet_drop 5 h) (by decide +kernel) | exact powers_tab (laidMet_drop 6 h) (by decide +kernel) | exact powers_tab (laidMet_drop 7 h) (by decide +kernel) | exact powers_tab (laidMet_drop 8 h) (by decide +kernel) | exact powers_tab (laidMet_drop 9 h) (by decide +kernel) | exact powers_tab (laidMet_drop 10 h) (by decide +kernel) | exact powers_tab (laidMet_drop 11 h) (by decide +kernel) | exact powers_tab (laidMet_drop 12 h) (by decide +kernel) | exact powers_tab (laidMet_drop 13 h) (by decide +kernel)
  · first | exact err_tab (laidMet_drop 0 h) (by decide +kernel) | exact err_tab (laidMet_drop 1 h) (by decide +kernel) | exact err_tab (laidMet_drop 2 h) (by decide +kernel) | exact err_tab (laidMet_drop 3 h) (by decide +kernel) | exact err_tab (laidMet_drop 4 h) (by decide +kernel) | exact err_tab (laidMet_drop 5 h) (by decide +kernel) | exact err_tab (laidMet_drop 6 h) (by decide +kernel) | exact err_tab (laidMet_drop 7 h) (by decide +kernel) | exact err_tab (laidMet_drop 8 h) (by decide +kernel) | exact err_tab (laidMet_drop 9 h) (by decide +kernel) | exact err_tab (laidMet_drop 10 h) (by decide +kernel) | exact err_tab (laidMet_drop 11 h) (by decide +kernel) | exact err_tab (laidMet_drop 12 h) (by decide +kernel) | exact err_tab (laidMet_drop 13 h) (by decide +kernel)
  · first | exact kinds_tab (laidMet_drop 0 h) (by decide +kernel) | exact kinds_tab (laidMet_drop 1 h) (by decide +kernel) | exact kinds_tab (laidMet_drop 2 h) (by decide +kernel) | exact kinds_tab (laidMet_drop 3 h) (by decide +kernel) | exact kinds_tab (laidMet_drop 4 h) (by decide +kernel) | exact kinds_tab (laidMet_drop 5 h) (by decide +kernel) | exact kinds_tab (laidMet_drop 6 h) (by decide +kernel) | exact kinds_tab (laidMet_drop 7 h) (by decide +kernel) | exact kinds_tab (laidMet_drop 8 h) (by decide +kernel) | exact kinds_tab (laidMet_drop 9 h) (by decide +kernel) | exact kinds_tab (laidMet_drop 10 h) (by decide +kernel) | exact kinds_tab (laidMet_drop 11 h) (by decide +kernel) | exact kinds_tab (laidMet_drop 12 h) (by decide +kernel) | exact kinds_tab (laidMet_drop 13 h) (by decide +kernel)

set_option maxRecDepth 100000 in
theorem lifted (os : Os) (started : os.Started) (H : Type) (enc : TypeId × Value → H) :
    ReturnsInHanded {} Tryz.checked os 4 .any (fun w args => (Rows.literalNoughtsSpec.pre enc Tryz.prog Tryz.f4 [] false w args ∧ laidMetH Tryz.prog Rows.literalNoughtsRow.laid w) ∧ sizedMet enc Tryz.prog Tryz.f4 (OpenSpec.ofChange Rows.literalNoughtsSpec) false w args)
      (Rows.literalNoughtsSpec.post enc Tryz.prog Tryz.f4 false true false false) := by
  refine returnsInHanded_of_change_and (C := Tryz.checked) (X := fun w _ => laidMetH Tryz.prog Rows.literalNoughtsRow.laid w) (fun _ _ _ hh h => h.of_heap hh) own started (by kernel_rfl) Tryz.func4
    (ChangeSpec.witness_shaped (enc := enc) (C := Tryz.checked) (os := os) (X := fun w _ => laidMetH Tryz.prog Rows.literalNoughtsRow.laid w) false (World.laidAll Tryz.prog os Rows.literalNoughtsRow.laid) #[.int .u32 0, .int .u32 0, .agg #[.int .u8 0, .int .u8 0, .int .u8 0]] 8 (World.laidAll_os _ _ _)
      (World.shaped_of_ZipB (by kernel_rfl) (by kernel_rfl)) (by kernel_rfl) (by kernel_rfl) (by kernel_rfl)
      (by rw [MakeChecks.laidMetH_plain _ _ _ (by kernel_rfl)]; exact laidMet_laidAll _ (by kernel_rfl) (by kernel_rfl))) ?_
  intro W base args ds gs before hval0 hW _ _ hL _
  have hval : ∀ (j : Nat) t v, Tryz.f4.params[j]? = some t → args[j]? = some v → Value.okWide Tryz.prog W .any base t v := hval0
  have hW' := hW
  obtain ⟨p, q, hA0, hV, rfl, hfz, hnd⟩ := hW
  have hA : DataW.TrodAll enc Tryz.prog W 0 (fun _ => true) true Tryz.f4.params.toList args.toList ds p := hA0
  rw [Tryz.params4] at hA hval
  obtain ⟨v0, vs0, d0, ds0, p0, q0, hargs, rfl, rfl, h0, r0⟩ := trodAll_cons hA
  obtain ⟨v1, vs1, d1, ds1, p1, q1, rfl, rfl, rfl, h1, r1⟩ := trodAll_cons r0
  obtain ⟨v2, vs2, d2, ds2, p2, q2, rfl, rfl, rfl, h2, r2⟩ := trodAll_cons r1
  obtain ⟨rfl, rfl, rfl⟩ := trodAll_nil r2
  obtain rfl : args = #[v0, v1, v2] := by cases args; simp_all
  obtain ⟨rfl, rfl⟩ := trodVars_none hV
  obtain ⟨a0, rfl, rfl, rfl, w0⟩ := open_int Tryz.underlying38 (hval 0 38 v0 rfl rfl) h0
  obtain ⟨a1, rfl, rfl, rfl, w1⟩ := open_int Tryz.underlying38 (hval 1 38 v1 rfl rfl) h1
  obtain ⟨a2, b2, c2, rfl, w2, u2, t2⟩ := open_tri8 (hval 2 39 v2 rfl rfl) h2
  clear hA0 hval0
  simp only [List.append_nil] at hW'
  rw [MakeChecks.laidMetH_plain _ _ _ (by kernel_rfl)] at hL
  refine (walk a0 a1 a2 b2 c2 W w0 w1 w2 u2 t2 (tab_of hL)).mono fun e W' ⟨he, bel⟩ => ?_
  subst he
  exact ⟨_, rfl, _, _, _, [], _, [], hW', trodAll_mk1 (shut_bool Tryz.underlying4 _), (trodAll_cons_mk (shut_int Tryz.underlying38 w0) (trodAll_cons_mk (shut_int Tryz.underlying38 w1) (trodAll_cons_mk (Below.trod laidOut (by kernel_rfl) (of_decide_eq_true (by kernel_rfl)) h2 bel (places_lt h2)) trodAll_mk0))), rfl, bel.frame _, fun h => by cases h⟩

theorem over : Rows.literalNoughtsRow.holds Tryz.pinned (OpenSpec.ofChange Rows.literalNoughtsSpec) :=
  OpenClaim.holds_of_wide 4 Tryz.f4 rfl rfl rfl rfl rfl rfl rfl ⟨rfl, rfl, rfl, rfl, rfl⟩ rfl rfl rfl rfl rfl (by kernel_rfl) Tryz.func4 (by kernel_rfl)
    (of_decide_eq_true (by kernel_rfl)) (by unfold Func.isWrapper; first | (rw [if_pos (by decide +kernel)]; kernel_rfl) | (rw [if_neg (by decide +kernel)]; exact ⟨rfl, rfl⟩))
    (fun os started H enc _ => lifted os started H enc)

theorem proved : Rows.LiteralNoughtsCardSaid :=
  Claim7.holds_tied_plain_at .later [] Rows.literalNoughtsCard.laidKinds true Rows.literalNoughtsCard.stood.harness Rows.literalNoughtsCard.stood.looks
    over (fun _ h => by cases h) (by kernel_rfl) (fun _ h => by cases h) literalNoughts_row_tie rfl ⟨rfl, rfl⟩ (by kernel_rfl) rfl
    (fun f fn hf hfn => by
      obtain rfl : f = 4 := Option.some.inj ((show Tryz.prog.funcNamed Rows.literalNoughtsRow.func = some 4 by kernel_rfl).symm.trans hf) |>.symm
      obtain rfl : fn = Tryz.f4 := (Option.some.inj (Tryz.func4.symm.trans hfn)).symm
      exact ⟨by kernel_rfl, fun j t ht => by
        have hm : t ∈ Tryz.f4.params.toList := by simpa using Array.mem_of_getElem? ht
        have hall : (Tryz.f4.params.toList.all fun u => !Tryz.prog.wantsStandIn u) = true := by kernel_rfl
        exact (show Tryz.prog.wantsStandIn t = false by simpa using List.all_eq_true.1 hall t hm)⟩)
    (by kernel_rfl)

end Go.Proofs.YtjpoolddgocbbaaGreatDoor.lawLiteralNoughts
