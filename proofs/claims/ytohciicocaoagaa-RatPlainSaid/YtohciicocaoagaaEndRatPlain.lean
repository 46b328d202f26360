/- A number whose top and bottom have a factor more is the same; a bottom of 0 is none. No condition. -/
import Derived.Test.YtohciicocaoagaaM8
import Derived.ChangeMaps5
/- How an argument that is a rational number is opened: a struct of a struct of a sign and a list of limbs, and of a list of limbs. No condition. -/
namespace Go.Proofs.Ytohciicocaoagaa
open Go.ChangeShapes Go.WideShapes Go.ChangeAt Go.RowKit Limb
set_option linter.unusedVariables false

theorem cells_rat : Try.prog.cellsOf 28 = 3 := by kernel_rfl

theorem three_cells {cs : Array Value} {u v x : Value} (h : cs.toList = [u, v, x]) : cs = #[u, v, x] := by
  obtain ⟨l⟩ := cs
  have h2 : l = [u, v, x] := h
  rw [h2]

/-- A slice of limbs among the cells of a struct. -/
theorem slice_cell {H : Type} {enc : TypeId × Value → H} {W : World} {sp : Nat → Bool} {held : Bool} {m : Nat} {c : Value} {x : DataW H × List MemPlace}
    (h : DataW.trod enc Try.prog W 0 sp held m 23 [c] = some x) : ∃ (a : Option Addr) (n k : Nat) (zs : List Nat), c = .slice a n k ∧ IsN W a n zs ∧ n ≤ k ∧ k ≤ maxLen := by
  have h2 : DataW.Trod enc Try.prog W 0 sp held 23 c x.1 x.2 := by
    rcases DataW.trod_slice Try.underlying23 h with ⟨e, _⟩ | ⟨a, l, k, es, rs, m2, _, e, _⟩
    · simp at e; subst e; exact ⟨_, h⟩
    · simp at e; subst e; exact ⟨_, h⟩
  rcases DataW.trod_slice Try.underlying23 h with ⟨e, _⟩ | ⟨a, l, k, es, rs, m2, _, e, _⟩
  · simp at e; subst e
    obtain ⟨zs, hz, hc, hm, _⟩ := open_nat h2
    exact ⟨_, _, _, zs, rfl, hz, hc, hm⟩
  · simp at e; subst e
    obtain ⟨zs, hz, hc, hm, _⟩ := open_nat h2
    exact ⟨_, _, _, zs, rfl, hz, hc, hm⟩

set_option maxRecDepth 100000 in
theorem open_rat {H : Type} {enc : TypeId × Value → H} {W : World} {r : Reach} {b0 : Nat} {sp : Nat → Bool} {held : Bool} {v : Value} {d : DataW H} {p : List MemPlace}
    (hok : Value.okWide Try.prog W r b0 28 v) (h : DataW.Trod enc Try.prog W 0 sp held 28 v d p) :
    ∃ (s : Bool) (a : Option Addr) (n c : Nat) (xs : List Nat) (b : Option Addr) (m k : Nat) (ys : List Nat), v = .agg #[.bool s, .slice a n c, .slice b m k] ∧ IsN W a n xs ∧ n ≤ c ∧ c ≤ maxLen ∧ IsN W b m ys ∧ m ≤ k ∧ k ≤ maxLen := by
  obtain ⟨cs, rfl, hsz⟩ := okWide_struct Try.underlying28 hok
  rw [cells_rat] at hsz
  obtain ⟨fuel, hf⟩ := h
  obtain ⟨xs, m, rfl, hx, hlen, hxl, hel⟩ := DataW.trod_struct Try.underlying28 hf
  have h0 : DataW.trod enc Try.prog W 0 sp held m 25 (((Value.agg cs).cells.toList.drop 0).take (Try.prog.cellsOf 25)) = xs[0]? := hel 0 _ rfl
  have h1 : DataW.trod enc Try.prog W 0 sp held m 23 (((Value.agg cs).cells.toList.drop 2).take (Try.prog.cellsOf 23)) = xs[1]? := hel 1 _ rfl
  rw [cells_int] at h0
  rw [cells_nat] at h1
  have hxl2 : xs.length = 2 := by simpa using hxl
  rw [List.getElem?_eq_getElem (by omega)] at h0 h1
  have hcl : cs.toList.length = 3 := by simpa using hsz
  have hcc : (Value.agg cs).cells.toList = cs.toList := rfl
  rw [hcc] at h0 h1
  match hcs : cs.toList, hcl with
  | [c0, c1, c2], _ =>
    rw [hcs] at h0 h1
    obtain ⟨ys, m1, e0, hy, hylen, hyl, hyel⟩ := DataW.trod_struct Try.underlying25 h0
    have k0 : DataW.trod enc Try.prog W 0 sp held m1 4 ((([c0, c1] : List Value).drop 0).take (Try.prog.cellsOf 4)) = ys[0]? := hyel 0 _ rfl
    have k1 : DataW.trod enc Try.prog W 0 sp held m1 23 ((([c0, c1] : List Value).drop 1).take (Try.prog.cellsOf 23)) = ys[1]? := hyel 1 _ rfl
    rw [cells_bool] at k0
    rw [cells_nat] at k1
    have hyl2 : ys.length = 2 := by simpa using hyl
    rw [List.getElem?_eq_getElem (by omega)] at k0 k1
    obtain ⟨b, hb, _⟩ := DataW.trod_bool Try.underlying4 k0
    simp at hb
    subst hb
    obtain ⟨a, n, c, zs, rfl, hz, hc, hm⟩ := slice_cell (c := c1) k1
    obtain ⟨a2, n2, k2, zs2, rfl, hz2, hc2, hm2⟩ := slice_cell (c := c2) h1
    exact ⟨b, _, _, _, zs, _, _, _, zs2, by rw [three_cells hcs], hz, hc, hm, hz2, hc2, hm2⟩

end Go.Proofs.Ytohciicocaoagaa

/- A number whose top and bottom have a factor more is the same; a bottom of 0 is none. No condition. -/
namespace Go.Proofs.Ytohciicocaoagaa.lawRatPlain
open Go.ChangeShapes Go.WideShapes Go.ChangeAt Go.RowKit Limb
set_option linter.unusedVariables false

set_option maxHeartbeats 400000000 in
set_option maxRecDepth 100000 in
theorem walk (g_a : Bool) (A_a : Option Addr) (n_a c_a : Nat) (xs_a : List Nat) (B_a : Option Addr) (m_a d_a : Nat) (ys_a : List Nat) (v_y : Int) (w : World) (i_a : IsN w A_a n_a xs_a) (hc_a : n_a ≤ c_a) (hm_a : c_a ≤ maxLen) (j_a : IsN w B_a m_a ys_a) (kc_a : m_a ≤ d_a) (km_a : d_a ≤ maxLen) (f_y : (Lit.int .u32 v_y).wf = true) :
    Calls Try.prog 7 #[.agg #[.bool g_a, .slice A_a n_a c_a, .slice B_a m_a d_a], .int .u32 v_y] w fun e w' => e = .returned (.bool true) ∧ Below w.heap.size w w' := by
  have KL_a : max n_a m_a ≤ 9223372036854775807 := by
    have e : maxLen = 9223372036854775807 := by decide
    omega
  have h_a := QQ.of (s := g_a) i_a hc_a j_a kc_a (Nat.le_max_left n_a m_a) (Nat.le_max_right n_a m_a)
  generalize readQ g_a xs_a ys_a = o_a at h_a
  have bw := bel_refl w
  have h_ra := row3_new w 28 (.bool g_a) (.slice A_a n_a c_a) (.slice B_a m_a d_a)
  have bn := below_new w (.cells #[Value.bool g_a, Value.slice A_a n_a c_a, Value.slice B_a m_a d_a] 28)
  replace h_a := h_a.below bn
  replace bw := below_two bw bn
  clear bn
  go_enter Try.func7, Try.ntmps7
  go_wp2_with fail
  generalize w.alloc (.cells #[Value.bool g_a, Value.slice A_a n_a c_a, Value.slice B_a m_a d_a] 28) = wP at *
  obtain ⟨q_a, eg⟩ : ∃ g, g = w.heap.size := ⟨_, rfl⟩
  rw [← eg] at h_ra ⊢
  clear eg
  cases o_a with
  | none =>
    refine (refGood_c h_a KL_a false rfl).mono ?_
    rintro e w1 ⟨rfl, bn⟩
    replace h_a := h_a.below bn
    replace h_ra := h_ra.below bn
    replace bw := below_two bw bn
    clear bn
    go_wp2_with fail
    refine (wakes_any _).mono ?_
    rintro e w2 ⟨rfl, bn⟩
    replace h_a := h_a.below bn
    replace h_ra := h_ra.below bn
    replace bw := below_two bw bn
    clear bn
    go_wp2
    go_ret
    exact ⟨rfl, bw⟩
  | some z_a =>
    refine (refGood_c h_a KL_a true rfl).mono ?_
    rintro e w3 ⟨rfl, bn⟩
    replace h_a := h_a.below bn
    replace h_ra := h_ra.below bn
    replace bw := below_two bw bn
    clear bn
    obtain ⟨t1, t2, t3, t4, L1_a, L2_a, D_a⟩ := qq_told h_a
    clear i_a j_a
    subst t1
    subst t2
    subst t3
    replace h_a := t4
    clear t4
    by_cases l1 : 40 < n_a
    case pos =>
      have L1 : (40 : Int) < n_a := by omega
      have c_a1 := h_ra.c1
      have c_a2 := h_ra.c2
      go_wp2_with fail
      clear c_a1 c_a2
      refine (wakes_any _).mono ?_
      rintro e w4 ⟨rfl, bn⟩
      replace h_a := h_a.below bn
      replace h_ra := h_ra.below bn
      replace bw := below_two bw bn
      clear bn
      go_wp2
      go_ret
      exact ⟨rfl, bw⟩
    have L1 : (n_a : Int) ≤ 40 := by omega
    by_cases l2 : 40 < m_a
    case pos =>
      have L2 : (40 : Int) < m_a := by omega
      have c_a1 := h_ra.c1
      have c_a2 := h_ra.c2
      go_wp2_with fail
      clear c_a1 c_a2
      refine (wakes_any _).mono ?_
      rintro e w5 ⟨rfl, bn⟩
      replace h_a := h_a.below bn
      replace h_ra := h_ra.below bn
      replace bw := below_two bw bn
      clear bn
      go_wp2
      go_ret
      exact ⟨rfl, bw⟩
    have L2 : (m_a : Int) ≤ 40 := by omega
    have hv := wf_u32 f_y
    obtain ⟨Y, hY⟩ : ∃ Y : Nat, v_y = (Y : Int) := ⟨v_y.toNat, by omega⟩
    subst hY
    obtain ⟨kk, hor, hk1, hk0⟩ := or_one (Y := Y) (by omega)
    have F0 := Lib.hid (show ofR (zOf (sg (oTop (some z_a))) (z_a.num.natAbs * kk)) (z_a.den * kk) = (some z_a, 0) from ofR_factor hk0 h_a.some.2.2.2.1)
    have HN := Lib.hid h_a.some
    have HK1 := Lib.hid hk1
    clear hv hk0 hk1 f_y
    have b_a1 := h_ra.c1
    have b_a2 := h_ra.c2
    have h_k : NN (w3.alloc (.cells #[Value.int IntKind.u32 (kk : Int)] 46)) (some ⟨w3.heap.size, 0, none⟩) 1 1 [kk] kk 1 := by
      have h := lit_c w3 [kk] (by intro x hx; simp at hx; have := HK1.out; omega) 1 rfl
      have e : Limb.val [kk] = kk := by simp [Limb.val]
      rw [e] at h; exact h
    have bn := below_new w3 (.cells #[Value.int IntKind.u32 (kk : Int)] 46)
    replace h_a := h_a.below bn
    replace h_ra := h_ra.below bn
    replace bw := below_two bw bn
    clear bn
    have c_a1 := h_ra.c1
    have c_a2 := h_ra.c2
    go_wp2
    clear c_a1 c_a2 b_a1 b_a2
    generalize w3.alloc (.cells #[Value.int IntKind.u32 (kk : Int)] 46) = w6 at *
    obtain ⟨A_k, eg⟩ : ∃ g, g = some (⟨w3.heap.size, 0, none⟩ : Addr) := ⟨_, rfl⟩
    rw [← eg] at h_k ⊢
    clear eg hor
    generalize w6 = wS at *
    refine region_free 10 1 [33, 34, 35, 36, 37, 38, 39, 40, 41, 6] ?aF21 (fun wx => Below wS.heap.size wS wx) (fun k vv wx => match k with
        | 0 => vv = .pointer (some ⟨q_a, 0, none⟩)
        | 1 => vv = .pointer (some ⟨q_a, 0, none⟩)
        | 2 => vv = .bool (sg (oTop (some z_a)))
        | 3 => vv = .pointer (some ⟨q_a, 0, none⟩)
        | 4 => vv = .pointer (some ⟨q_a, 1, none⟩)
        | 5 => vv = .slice A_a n_a c_a
        | 6 => vv = .slice A_k 1 1
        | 7 => ∃ (e0 : Option Addr) (e1 : Nat) (e2 : Nat), vv = .slice e0 e1 e2 ∧ NN wx e0 e1 e2 (limbs (z_a.num.natAbs * kk)) (z_a.num.natAbs * kk) 65
        | 8 => ∃ (e0 : Option Addr) (e1 : Nat) (e2 : Nat), vv = .agg #[.bool (sg (oTop (some z_a))), .slice e0 e1 e2] ∧ NN wx e0 e1 e2 (limbs (z_a.num.natAbs * kk)) (z_a.num.natAbs * kk) 65
        | _ => ∃ (e0 : Nat), vv = .pointer (some ⟨e0, 0, none⟩) ∧ Row2 wx e0 25 (.bool false) (.slice none 0 0) ∧ Over wS e0 wx)
      (fun k => k == 9) (by kernel_rfl) ?haF21 rfl (by kernel_rfl) (by kernel_rfl) (fun _ _ _ _ _ h => h) ?hSb21 ?hPb21 ?hS21 ?hop21 ?hfin21
    case haF21 =>
      intro vals
      simp only [fillAll, List.getElem?_cons_zero, List.getElem?_cons_succ, Act.put, List.setIfInBounds_toArray, List.set_cons_zero, List.set_cons_succ]
      exact rfl
    case hSb21 => exact fun wx w2 hb hS => below_two hS hb
    case hPb21 =>
      intro k v wa wb hb h
      match k, h with
      | 0, h => exact h
      | 1, h => exact h
      | 2, h => exact h
      | 3, h => exact h
      | 4, h => exact h
      | 5, h => exact h
      | 6, h => exact h
      | 7, ⟨e0, e1, e2, h1, g0⟩ => exact ⟨e0, e1, e2, h1, g0.below hb⟩
      | 8, ⟨e0, e1, e2, h1, g0⟩ => exact ⟨e0, e1, e2, h1, g0.below hb⟩
      | _ + 9, ⟨e0, h1, g0, g1⟩ => exact ⟨e0, h1, g0.below hb, g1.below hb⟩
    case hS21 => exact (Below.refl _ _).drew
    case hop21 =>
      refine .cons (k := 0) ?_ (.cons (k := 1) ?_ (.cons (k := 2) ?_ (.cons (k := 3) ?_ (.cons (k := 4) ?_ (.cons (k := 5) ?_ (.cons (k := 6) ?_ (.cons (k := 7) ?_ (.cons (k := 8) ?_ (.cons (k := 9) ?_ (.nil))))))))))
      all_goals intro vals wr hS hd KC hK
      all_goals (show Oper.wp _ _ _ _ _ _; dsimp only)
      · go_simp
        refine hK _ _ rfl (Below.refl _ _) (by first | rfl | simp) (fun h => by cases h)
      · have d0 : vals 0 = _ := hd 0 (by decide +kernel)
        rw [d0]
        go_simp
        refine hK _ _ rfl (Below.refl _ _) (by first | rfl | simp) (fun h => by cases h)
      · have d1 : vals 1 = _ := hd 1 (by decide +kernel)
        rw [d1]
        have z0 := (h_ra.below hS).c0
        go_simp
        refine hK _ _ rfl (Below.refl _ _) (by first | rfl | simp) (fun h => by cases h)
      · go_simp
        refine hK _ _ rfl (Below.refl _ _) (by first | rfl | simp) (fun h => by cases h)
      · have d3 : vals 3 = _ := hd 3 (by decide +kernel)
        rw [d3]
        go_simp
        refine hK _ _ rfl (Below.refl _ _) (by first | rfl | simp) (fun h => by cases h)
      · have d4 : vals 4 = _ := hd 4 (by decide +kernel)
        rw [d4]
        have z0 := (h_ra.below hS).c1
        go_simp
        refine hK _ _ rfl (Below.refl _ _) (by first | rfl | simp) (fun h => by cases h)
      · go_simp
        refine hK _ _ rfl (Below.refl _ _) (by first | rfl | simp) (fun h => by cases h)
      · have d5 : vals 5 = _ := hd 5 (by decide +kernel)
        have d6 : vals 6 = _ := hd 6 (by decide +kernel)
        rw [d5, d6]
        go_simp
        go_at_call 25
        with_reducible refine (refMul_c (h_a.some.2.2.2.2.1.nn.below hS) (h_k.below hS) (by decide) (by decide)).mono ?_
        rintro e w2 ⟨r0, r1, r2, rfl, f0, bn_r⟩
        refine hK _ _ rfl bn_r ⟨_, _, _, rfl, f0⟩ (fun h => by cases h)
      · have d2 : vals 2 = _ := hd 2 (by decide +kernel)
        obtain ⟨A_7_0, n_7_1, n_7_2, d7, h_7_0⟩ := hd 7 (by decide +kernel)
        rw [d2, d7]
        go_simp
        refine hK _ _ rfl (Below.refl _ _) ⟨_, _, _, rfl, h_7_0⟩ (fun h => by cases h)
      · go_simp
        refine hK _ _ rfl (below_new _ _) ⟨_, rfl, row2_new wr _ _ _ , hS.size⟩ (fun _ => ⟨_, rfl, Nat.le_refl _, by rw [World.size_alloc]; omega⟩)
    case hfin21 =>
      intro vals wr hS hP hne
      obtain ⟨A_8_0, n_8_1, n_8_2, ez_8, h_8_0⟩ := hP 8 (by decide)
      obtain ⟨n_9_0, ez_9, h_9_0, h_9_1⟩ := hP 9 (by decide)
      have v0 := Row2.c0 h_9_0
      have v1 := Row2.c1 h_9_0
      have y0 := Row2.free h_9_0 0
      have y1 := Row2.free h_9_0 1
      have h_rt := Row2.filled h_9_0 (.bool (sg (oTop (some z_a)))) (.slice A_8_0 n_8_1 n_8_2)
      have h_t := NN.put2 h_8_0 h_9_0 (.bool (sg (oTop (some z_a)))) (.slice A_8_0 n_8_1 n_8_2)
      have bn := below_fill hS h_9_1 (.bool (sg (oTop (some z_a)))) (.slice A_8_0 n_8_1 n_8_2)
      try dsimp only
      rw [ez_8, ez_9]
      refine wpAny_ready (rs := [10]) (by kernel_rfl) (by simp) (AllReady.cons rfl (fun KC hK => ?_) AllReady.nil)
      go_simp
      refine hK _ _ ?_
      clear hK KC
      refine wpAny_done (by kernel_rfl) ?_ _
      generalize (wr.setCell ⟨n_9_0, 0, none⟩ (.bool (sg (oTop (some z_a))))).setCell ⟨n_9_0, 1, none⟩ (.slice A_8_0 n_8_1 n_8_2) = w7 at *
      clear v0 v1 y0 y1 hS ez_8 ez_9 h_9_0 h_9_1 h_8_0
      obtain ⟨q_t, A_t, n_t, c_t, eg⟩ : ∃ q A n c, (q, A, n, c) = (n_9_0, A_8_0, n_8_1, n_8_2) := ⟨_, _, _, _, rfl⟩
      injection eg with e1 eg; injection eg with e2 eg; injection eg with e3 e4
      subst e1 e2 e3 e4
      replace h_a := h_a.below bn
      replace h_ra := h_ra.below bn
      replace h_k := h_k.below bn
      replace bw := below_two bw bn
      clear bn
      go_wp2
      generalize w7 = wS at *
      refine region_freex 10 2 8 [43, 44, 45, 46, 47, 48, 42, 49, 50, 7] ?aF22 (fun wx => Below wS.heap.size wS wx) (fun k vv wx => match k with
          | 0 => vv = .agg #[.bool (sg (oTop (some z_a))), .slice A_t n_t c_t]
          | 1 => vv = .pointer (some ⟨q_a, 2, none⟩)
          | 2 => vv = .slice B_a m_a d_a
          | 3 => vv = .slice A_k 1 1
          | 4 => ∃ (e0 : Option Addr) (e1 : Nat) (e2 : Nat), vv = .slice e0 e1 e2 ∧ NN wx e0 e1 e2 (limbs (z_a.den * kk)) (z_a.den * kk) 65
          | 5 => ∃ (e0 : Option Addr) (e1 : Nat) (e2 : Nat) (e3 : Option Addr) (e4 : Nat) (e5 : Nat), vv = .tuple #[.agg #[.bool (sg (oTop (some z_a))), .slice e0 e1 e2, .slice e3 e4 e5], .int .i64 0] ∧ QT wx e0 e1 e2 e3 e4 e5 (some z_a)
          | 6 => ∃ (e0 : Option Addr) (e1 : Nat) (e2 : Nat) (e3 : Option Addr) (e4 : Nat) (e5 : Nat), vv = .tuple #[.agg #[.bool (sg (oTop (some z_a))), .slice e0 e1 e2, .slice e3 e4 e5], .int .i64 0] ∧ QT wx e0 e1 e2 e3 e4 e5 (some z_a)
          | 7 => ∃ (e0 : Option Addr) (e1 : Nat) (e2 : Nat) (e3 : Option Addr) (e4 : Nat) (e5 : Nat), vv = .agg #[.bool (sg (oTop (some z_a))), .slice e0 e1 e2, .slice e3 e4 e5] ∧ QT wx e0 e1 e2 e3 e4 e5 (some z_a)
          | 8 => vv = .int .i64 0
          | _ => ∃ (e0 : Nat), vv = .pointer (some ⟨e0, 0, none⟩) ∧ Row3 wx e0 28 (.bool false) (.slice none 0 0) (.slice none 0 0) ∧ Over wS e0 wx)
        (fun k => k == 9) (by kernel_rfl) ?haF22 rfl (by kernel_rfl) (by kernel_rfl) (by decide) rfl (by kernel_rfl) (by kernel_rfl) ?hyx22 (fun _ _ _ _ _ h => h) ?hSb22 ?hPb22 ?hS22 ?hop22 ?hfin22
      case haF22 =>
        intro vals
        simp only [fillAll, List.getElem?_cons_zero, List.getElem?_cons_succ, Act.put, List.setIfInBounds_toArray, List.set_cons_zero, List.set_cons_succ]
        exact rfl
      case hyx22 =>
        intro vals wr hS hd o ho
        obtain ⟨A_6_0, n_6_1, n_6_2, A_6_3, n_6_4, n_6_5, d6, h_6_0⟩ := hd 6 (by decide) (by decide)
        cases ho
        try dsimp only
        rw [d6]
        exact ⟨rfl, _, fun _ => rfl, rfl⟩
      case hSb22 => exact fun wx w2 hb hS => below_two hS hb
      case hPb22 =>
        intro k v wa wb hb h
        match k, h with
        | 0, h => exact h
        | 1, h => exact h
        | 2, h => exact h
        | 3, h => exact h
        | 4, ⟨e0, e1, e2, h1, g0⟩ => exact ⟨e0, e1, e2, h1, g0.below hb⟩
        | 5, ⟨e0, e1, e2, e3, e4, e5, h1, g0⟩ => exact ⟨e0, e1, e2, e3, e4, e5, h1, g0.below hb⟩
        | 6, ⟨e0, e1, e2, e3, e4, e5, h1, g0⟩ => exact ⟨e0, e1, e2, e3, e4, e5, h1, g0.below hb⟩
        | 7, ⟨e0, e1, e2, e3, e4, e5, h1, g0⟩ => exact ⟨e0, e1, e2, e3, e4, e5, h1, g0.below hb⟩
        | 8, h => exact h
        | _ + 9, ⟨e0, h1, g0, g1⟩ => exact ⟨e0, h1, g0.below hb, g1.below hb⟩
      case hS22 => exact (Below.refl _ _).drew
      case hop22 =>
        refine .cons (k := 0) (.plain rfl ?_) (.cons (k := 1) (.plain rfl ?_) (.cons (k := 2) (.plain rfl ?_) (.cons (k := 3) (.plain rfl ?_) (.cons (k := 4) (.plain rfl ?_) (.cons (k := 5) (.plain rfl ?_) (.cons (k := 6) (.plain rfl ?_) (.cons (k := 7) (.plain rfl ?_) (.cons (k := 8) (.plain rfl ?_) (.cons (k := 9) (.plain rfl ?_) (.nil))))))))))
        all_goals intro vals wr hS hd KC hK
        all_goals (show Oper.wp _ _ _ _ _ _; dsimp only)
        · have z0 := (h_rt.below hS).c0
          have z1 := (h_rt.below hS).c1
          go_simp
          refine hK _ _ rfl (Below.refl _ _) (by first | rfl | simp) (fun h => by cases h)
        · go_simp
          refine hK _ _ rfl (Below.refl _ _) (by first | rfl | simp) (fun h => by cases h)
        · have d1 : vals 1 = _ := hd 1 (by decide +kernel)
          rw [d1]
          have z0 := (h_ra.below hS).c2
          go_simp
          refine hK _ _ rfl (Below.refl _ _) (by first | rfl | simp) (fun h => by cases h)
        · go_simp
          refine hK _ _ rfl (Below.refl _ _) (by first | rfl | simp) (fun h => by cases h)
        · have d2 : vals 2 = _ := hd 2 (by decide +kernel)
          have d3 : vals 3 = _ := hd 3 (by decide +kernel)
          rw [d2, d3]
          go_simp
          go_at_call 25
          with_reducible refine (refMul_c (h_a.some.2.2.2.2.2.1.below hS) (h_k.below hS) (by decide) (by decide)).mono ?_
          rintro e w2 ⟨r0, r1, r2, rfl, f0, bn_r⟩
          refine hK _ _ rfl bn_r ⟨_, _, _, rfl, f0⟩ (fun h => by cases h)
        · have d0 : vals 0 = _ := hd 0 (by decide +kernel)
          obtain ⟨A_4_0, n_4_1, n_4_2, d4, h_4_0⟩ := hd 4 (by decide +kernel)
          rw [d0, d4]
          go_simp
          go_at_call 9
          with_reducible refine (rOf_c (ZZ.of (h_t.below hS)) h_4_0 (by decide) (by decide) _ _ F0.out).mono ?_
          rintro e w2 ⟨r0, r1, r2, r3, r4, r5, rfl, f0, bn_r⟩
          refine hK _ _ rfl bn_r ⟨_, _, _, _, _, _, rfl, f0⟩ (fun h => by cases h)
        · obtain ⟨A_5_0, n_5_1, n_5_2, A_5_3, n_5_4, n_5_5, d5, h_5_0⟩ := hd 5 (by decide +kernel)
          rw [d5]
          go_simp
          refine hK _ _ rfl (Below.refl _ _) ⟨_, _, _, _, _, _, rfl, h_5_0⟩ (fun h => by cases h)
        · obtain ⟨A_6_0, n_6_1, n_6_2, A_6_3, n_6_4, n_6_5, d6, h_6_0⟩ := hd 6 (by decide +kernel)
          rw [d6]
          go_simp
          refine hK _ _ rfl (Below.refl _ _) ⟨_, _, _, _, _, _, rfl, h_6_0⟩ (fun h => by cases h)
        · obtain ⟨A_6_0, n_6_1, n_6_2, A_6_3, n_6_4, n_6_5, d6, h_6_0⟩ := hd 6 (by decide +kernel)
          rw [d6]
          go_simp
          refine hK _ _ rfl (Below.refl _ _) rfl (fun h => by cases h)
        · go_simp
          refine hK _ _ rfl (below_new _ _) ⟨_, rfl, row3_new wr _ _ _ _ , hS.size⟩ (fun _ => ⟨_, rfl, Nat.le_refl _, by rw [World.size_alloc]; omega⟩)
      case hfin22 =>
        intro vals wr hS hP hne
        obtain ⟨A_7_0, n_7_1, n_7_2, A_7_3, n_7_4, n_7_5, ez_7, h_7_0⟩ := hP 7 (by decide)
        have ez_8 : vals 8 = _ := hP 8 (by decide)
        obtain ⟨n_9_0, ez_9, h_9_0, h_9_1⟩ := hP 9 (by decide)
        have hNo := Row3.noLimb h_9_0 (by intro v e; cases e) (by intro v e; cases e) (by intro v e; cases e)
        have v0 := Row3.c0 h_9_0
        have v1 := Row3.c1 h_9_0
        have v2 := Row3.c2 h_9_0
        have y0 := Row3.free h_9_0 0
        have y1 := Row3.free h_9_0 1
        have y2 := Row3.free h_9_0 2
        have h_rb := Row3.fill h_9_0 (.bool (sg (oTop (some z_a)))) (.slice A_7_0 n_7_1 n_7_2) (.slice A_7_3 n_7_4 n_7_5)
        have h_b := QQ.fillR3 h_7_0 hNo (.bool (sg (oTop (some z_a)))) (.slice A_7_0 n_7_1 n_7_2) (.slice A_7_3 n_7_4 n_7_5)
        have bn := below_fill3' hS h_9_1 (.bool (sg (oTop (some z_a)))) (.slice A_7_0 n_7_1 n_7_2) (.slice A_7_3 n_7_4 n_7_5)
        clear hNo
        try dsimp only
        rw [ez_7, ez_8, ez_9]
        refine wpAny_ready (rs := [10]) (by kernel_rfl) (by simp) (AllReady.cons rfl (fun KC hK => ?_) AllReady.nil)
        go_simp
        refine hK _ _ ?_
        clear hK KC
        refine wpAny_ready (rs := [11]) (by kernel_rfl) (by simp) (AllReady.cons rfl (fun KC hK => ?_) AllReady.nil)
        go_simp
        refine hK _ _ ?_
        clear hK KC
        refine wpAny_done (by kernel_rfl) ?_ _
        generalize ((wr.setCell ⟨n_9_0, 0, none⟩ (.bool (sg (oTop (some z_a))))).setCell ⟨n_9_0, 1, none⟩ (.slice A_7_0 n_7_1 n_7_2)).setCell ⟨n_9_0, 2, none⟩ (.slice A_7_3 n_7_4 n_7_5) = w8 at *
        clear v0 v1 v2 y0 y1 y2 hS ez_7 ez_8 ez_9 h_9_0 h_9_1 h_7_0
        obtain ⟨q_b, A_b, n_b, c_b, B_b, m_b, d_b, eg⟩ : ∃ q A n c B m d, (q, A, n, c, B, m, d) = (n_9_0, A_7_0, n_7_1, n_7_2, A_7_3, n_7_4, n_7_5) := ⟨_, _, _, _, _, _, _, rfl⟩
        injection eg with e1 eg; injection eg with e2 eg; injection eg with e3 eg; injection eg with e4 eg; injection eg with e5 eg; injection eg with e6 e7
        subst e1 e2 e3 e4 e5 e6 e7
        replace h_a := h_a.below bn
        replace h_ra := h_ra.below bn
        replace h_k := h_k.below bn
        replace h_t := h_t.below bn
        replace h_rt := h_rt.below bn
        replace bw := below_two bw bn
        clear bn
        have c_t0 := h_rt.c0
        have c_t1 := h_rt.c1
        go_wp2_with fail
        clear c_t0 c_t1
        refine (rOf_c (ZZ.of h_t) (nn_nil _ 0) (by decide) (by decide) _ _ (of_nought _)).mono ?_
        rintro e w9 ⟨A_f, n_f, c_f, B_f, m_f, d_f, rfl, h_f, bn⟩
        replace h_a := h_a.below bn
        replace h_ra := h_ra.below bn
        replace h_k := h_k.below bn
        replace h_t := h_t.below bn
        replace h_rt := h_rt.below bn
        replace h_b := h_b.below bn
        replace h_rb := h_rb.below bn
        replace bw := below_two bw bn
        clear bn
        have h_rf := row3_new w9 28 (.bool (sg (oTop none))) (.slice A_f n_f c_f) (.slice B_f m_f d_f)
        have bn := below_new w9 (.cells #[Value.bool (sg (oTop none)), Value.slice A_f n_f c_f, Value.slice B_f m_f d_f] 28)
        replace h_a := h_a.below bn
        replace h_ra := h_ra.below bn
        replace h_k := h_k.below bn
        replace h_t := h_t.below bn
        replace h_rt := h_rt.below bn
        replace h_b := h_b.below bn
        replace h_rb := h_rb.below bn
        replace h_f := h_f.below bn
        replace bw := below_two bw bn
        clear bn
        have c_t0 := h_rt.c0
        have c_t1 := h_rt.c1
        have h_l : NN ((w9.alloc (.cells #[Value.bool (sg (oTop none)), Value.slice A_f n_f c_f, Value.slice B_f m_f d_f] 28)).alloc (.cells #[Value.int IntKind.u32 0, Value.int IntKind.u32 0] 46)) (some ⟨(w9.alloc (.cells #[Value.bool (sg (oTop none)), Value.slice A_f n_f c_f, Value.slice B_f m_f d_f] 28)).heap.size, 0, none⟩) 2 2 [0, 0] 0 2 := lit_c (w9.alloc (.cells #[Value.bool (sg (oTop none)), Value.slice A_f n_f c_f, Value.slice B_f m_f d_f] 28)) [0, 0] (by intro x hx; simp at hx; omega) 2 rfl
        have bn := below_new (w9.alloc (.cells #[Value.bool (sg (oTop none)), Value.slice A_f n_f c_f, Value.slice B_f m_f d_f] 28)) (.cells #[Value.int IntKind.u32 0, Value.int IntKind.u32 0] 46)
        replace h_a := h_a.below bn
        replace h_ra := h_ra.below bn
        replace h_k := h_k.below bn
        replace h_t := h_t.below bn
        replace h_rt := h_rt.below bn
        replace h_b := h_b.below bn
        replace h_rb := h_rb.below bn
        replace h_f := h_f.below bn
        replace h_rf := h_rf.below bn
        replace bw := below_two bw bn
        clear bn
        simp only [World.size_alloc] at h_l
        go_wp2_with fail
        clear c_t0 c_t1
        generalize (w9.alloc (.cells #[Value.bool (sg (oTop none)), Value.slice A_f n_f c_f, Value.slice B_f m_f d_f] 28)).alloc (.cells #[Value.int IntKind.u32 0, Value.int IntKind.u32 0] 46) = w10 at *
        obtain ⟨q_f, eg⟩ : ∃ g, g = w9.heap.size := ⟨_, rfl⟩
        rw [← eg] at h_rf h_l ⊢
        clear eg
        refine (rOf_c (ZZ.of h_t) h_l (by decide) (by decide) _ _ (of_nought _)).mono ?_
        rintro e w11 ⟨A_g, n_g, c_g, B_g, m_g, d_g, rfl, h_g, bn⟩
        replace h_a := h_a.below bn
        replace h_ra := h_ra.below bn
        replace h_k := h_k.below bn
        replace h_t := h_t.below bn
        replace h_rt := h_rt.below bn
        replace h_b := h_b.below bn
        replace h_rb := h_rb.below bn
        replace h_f := h_f.below bn
        replace h_rf := h_rf.below bn
        replace h_l := h_l.below bn
        replace bw := below_two bw bn
        clear bn
        have h_rg := row3_new w11 28 (.bool (sg (oTop none))) (.slice A_g n_g c_g) (.slice B_g m_g d_g)
        have bn := below_new w11 (.cells #[Value.bool (sg (oTop none)), Value.slice A_g n_g c_g, Value.slice B_g m_g d_g] 28)
        replace h_a := h_a.below bn
        replace h_ra := h_ra.below bn
        replace h_k := h_k.below bn
        replace h_t := h_t.below bn
        replace h_rt := h_rt.below bn
        replace h_b := h_b.below bn
        replace h_rb := h_rb.below bn
        replace h_f := h_f.below bn
        replace h_rf := h_rf.below bn
        replace h_l := h_l.below bn
        replace h_g := h_g.below bn
        replace bw := below_two bw bn
        clear bn
        have c_a0 := h_ra.c0
        have c_a1 := h_ra.c1
        have c_a2 := h_ra.c2
        have c_b0 := h_rb.c0
        have c_b1 := h_rb.c1
        have c_b2 := h_rb.c2
        go_wp2_with fail
        clear c_a0 c_a1 c_a2 c_b0 c_b1 c_b2
        generalize w11.alloc (.cells #[Value.bool (sg (oTop none)), Value.slice A_g n_g c_g, Value.slice B_g m_g d_g] 28) = w12 at *
        obtain ⟨q_g, eg⟩ : ∃ g, g = w11.heap.size := ⟨_, rfl⟩
        rw [← eg] at h_rg ⊢
        clear eg
        refine (keepRat_c h_a h_b (by decide) (by decide) true (keepQ rfl)).mono ?_
        rintro e w13 ⟨rfl, bn⟩
        replace h_a := h_a.below bn
        replace h_ra := h_ra.below bn
        replace h_k := h_k.below bn
        replace h_t := h_t.below bn
        replace h_rt := h_rt.below bn
        replace h_b := h_b.below bn
        replace h_rb := h_rb.below bn
        replace h_f := h_f.below bn
        replace h_rf := h_rf.below bn
        replace h_l := h_l.below bn
        replace h_g := h_g.below bn
        replace h_rg := h_rg.below bn
        replace bw := below_two bw bn
        clear bn
        have c_b0 := h_rb.c0
        have c_b1 := h_rb.c1
        have c_b2 := h_rb.c2
        go_wp2_with fail
        clear c_b0 c_b1 c_b2
        refine (rGood_c h_b (by decide) true rfl).mono ?_
        rintro e w14 ⟨rfl, bn⟩
        replace h_a := h_a.below bn
        replace h_ra := h_ra.below bn
        replace h_k := h_k.below bn
        replace h_t := h_t.below bn
        replace h_rt := h_rt.below bn
        replace h_b := h_b.below bn
        replace h_rb := h_rb.below bn
        replace h_f := h_f.below bn
        replace h_rf := h_rf.below bn
        replace h_l := h_l.below bn
        replace h_g := h_g.below bn
        replace h_rg := h_rg.below bn
        replace bw := below_two bw bn
        clear bn
        go_wp2_with fail
        refine (wakes_any _).mono ?_
        rintro e w15 ⟨rfl, bn⟩
        replace h_a := h_a.below bn
        replace h_ra := h_ra.below bn
        replace h_k := h_k.below bn
        replace h_t := h_t.below bn
        replace h_rt := h_rt.below bn
        replace h_b := h_b.below bn
        replace h_rb := h_rb.below bn
        replace h_f := h_f.below bn
        replace h_rf := h_rf.below bn
        replace h_l := h_l.below bn
        replace h_g := h_g.below bn
        replace h_rg := h_rg.below bn
        replace bw := below_two bw bn
        clear bn
        go_wp2
        go_ret
        exact ⟨rfl, bw⟩

set_option maxRecDepth 100000 in
theorem lifted (os : Os) (started : os.Started) (H : Type) (enc : TypeId × Value → H) :
    ReturnsInHanded {} Try.checked os 7 .any (Rows.ratPlainSpec.pre6 enc Try.prog Try.f7 Rows.ratPlainRow.domain false) (Rows.ratPlainSpec.post enc Try.prog Try.f7 false true false false) := by
  refine returnsInHanded_of_change (C := Try.checked) own started (by kernel_rfl) Try.func7
    (ChangeSpec.witness6 (enc := enc) (C := Try.checked) false ⟨#[], #[.agg #[.bool false, .slice none 0 0, .slice none 0 0], .int .u32 0], []⟩ 8 (by kernel_rfl) (by kernel_rfl) (by kernel_rfl) (by kernel_rfl)) ?_
  intro W base args ds gs before hval0 hW hcnd _
  have hval : ∀ (j : Nat) t v, Try.f7.params[j]? = some t → args[j]? = some v → Value.okWide Try.prog W .any base t v := hval0
  have hW' := hW
  obtain ⟨p, q, hA0, hV, rfl, hfz, hnd⟩ := hW
  have hA : DataW.TrodAll enc Try.prog W 0 (fun _ => true) true Try.f7.params.toList args.toList ds p := hA0
  rw [Try.params7] at hA hval
  obtain ⟨v0, vs0, d0, ds0, p0, q0, hargs, rfl, rfl, h0, r0⟩ := trodAll_cons hA
  obtain ⟨v1, vs1, d1, ds1, p1, q1, rfl, rfl, rfl, h1, r1⟩ := trodAll_cons r0
  obtain ⟨rfl, rfl, rfl⟩ := trodAll_nil r1
  obtain rfl : args = #[v0, v1] := by cases args; simp_all
  obtain ⟨rfl, rfl⟩ := trodVars_none hV
  obtain ⟨b0, a0, len0, cap0, z0, e0, lem0, dap0, y0, rfl, i0, hc0, hm0, k0, kc0, km0⟩ := open_rat (hval 0 28 v0 rfl rfl) h0
  obtain ⟨a1, rfl, rfl, rfl, w1⟩ := open_int Try.underlying46 (hval 1 46 v1 rfl rfl) h1
  clear hA0 hval0
  refine (walk b0 a0 len0 cap0 z0 e0 lem0 dap0 y0 a1 W i0 hc0 hm0 k0 kc0 km0 w1).mono fun e W' ⟨he, bel⟩ => ?_
  subst he
  exact ⟨_, rfl, _, _, _, [], _, [], hW', trodAll_mk1 (shut_bool Try.underlying4 _), (trodAll_cons_mk (Below.trod laidOut (by kernel_rfl) (of_decide_eq_true (by kernel_rfl)) h0 bel (places_lt h0)) (trodAll_cons_mk (shut_int Try.underlying46 w1) trodAll_mk0)), rfl, bel.frame _, fun h => by cases h⟩

theorem over : Rows.ratPlainRow.holds Try.pinned (OpenSpec.ofChange Rows.ratPlainSpec) :=
  OpenClaim.holds_of_wide 7 Try.f7 rfl rfl rfl rfl rfl rfl rfl ⟨rfl, rfl, rfl, rfl, rfl⟩ rfl rfl rfl rfl rfl (by kernel_rfl) Try.func7 (by kernel_rfl)
    (of_decide_eq_true (by kernel_rfl)) (by unfold Func.isWrapper; first | (rw [if_pos (by decide +kernel)]; kernel_rfl) | (rw [if_neg (by decide +kernel)]; exact ⟨rfl, rfl⟩))
    (fun os started H enc _ => lifted os started H enc)

theorem proved : Rows.RatPlainSaid := over

end Go.Proofs.Ytohciicocaoagaa.lawRatPlain
