/- Of any two numbers that are not one half of their sum lies between. No condition. -/
import Derived.Test.YtohciicocaoagaaM8
import Derived.ChangeMaps5
/- How an argument that is a rational number is opened: a struct of a struct of a sign and a list of limbs, and of a list of limbs. No condition. -/
namespace Go.Proofs.Ytohciicocaoagaa
open Go.ChangeShapes Go.WideShapes Go.ChangeAt Go.RowKit Limb
set_option linter.unusedVariables false

theorem cells_rat : Try.prog.cellsOf 28 = 3 := by kernel_rfl

theorem three_cells {cs : Array Value} {u v x : Value} (h : cs.toList = [u, v, x]) : cs = #[u, v, x] := by
  obtain ⟨l⟩ := cs
  have h2 : l = [u, v, x] := h
  rw [h2]

/-- A slice of limbs among the cells of a struct. -/
theorem slice_cell {H : Type} {enc : TypeId × Value → H} {W : World} {sp : Nat → Bool} {held : Bool} {m : Nat} {c : Value} {x : DataW H × List MemPlace}
    (h : DataW.trod enc Try.prog W 0 sp held m 23 [c] = some x) : ∃ (a : Option Addr) (n k : Nat) (zs : List Nat), c = .slice a n k ∧ IsN W a n zs ∧ n ≤ k ∧ k ≤ maxLen := by
  have h2 : DataW.Trod enc Try.prog W 0 sp held 23 c x.1 x.2 := by
    rcases DataW.trod_slice Try.underlying23 h with ⟨e, _⟩ | ⟨a, l, k, es, rs, m2, _, e, _⟩
    · simp at e; subst e; exact ⟨_, h⟩
    · simp at e; subst e; exact ⟨_, h⟩
  rcases DataW.trod_slice Try.underlying23 h with ⟨e, _⟩ | ⟨a, l, k, es, rs, m2, _, e, _⟩
  · simp at e; subst e
    obtain ⟨zs, hz, hc, hm, _⟩ := open_nat h2
    exact ⟨_, _, _, zs, rfl, hz, hc, hm⟩
  · simp at e; subst e
    obtain ⟨zs, hz, hc, hm, _⟩ := open_nat h2
    exact ⟨_, _, _, zs, rfl, hz, hc, hm⟩

set_option maxRecDepth 100000 in
theorem open_rat {H : Type} {enc : TypeId × Value → H} {W : World} {r : Reach} {b0 : Nat} {sp : Nat → Bool} {held : Bool} {v : Value} {d : DataW H} {p : List MemPlace}
    (hok : Value.okWide Try.prog W r b0 28 v) (h : DataW.Trod enc Try.prog W 0 sp held 28 v d p) :
    ∃ (s : Bool) (a : Option Addr) (n c : Nat) (xs : List Nat) (b : Option Addr) (m k : Nat) (ys : List Nat), v = .agg #[.bool s, .slice a n c, .slice b m k] ∧ IsN W a n xs ∧ n ≤ c ∧ c ≤ maxLen ∧ IsN W b m ys ∧ m ≤ k ∧ k ≤ maxLen := by
  obtain ⟨cs, rfl, hsz⟩ := okWide_struct Try.underlying28 hok
  rw [cells_rat] at hsz
  obtain ⟨fuel, hf⟩ := h
  obtain ⟨xs, m, rfl, hx, hlen, hxl, hel⟩ := DataW.trod_struct Try.underlying28 hf
  have h0 : DataW.trod enc Try.prog W 0 sp held m 25 (((Value.agg cs).cells.toList.drop 0).take (Try.prog.cellsOf 25)) = xs[0]? := hel 0 _ rfl
  have h1 : DataW.trod enc Try.prog W 0 sp held m 23 (((Value.agg cs).cells.toList.drop 2).take (Try.prog.cellsOf 23)) = xs[1]? := hel 1 _ rfl
  rw [cells_int] at h0
  rw [cells_nat] at h1
  have hxl2 : xs.length = 2 := by simpa using hxl
  rw [List.getElem?_eq_getElem (by omega)] at h0 h1
  have hcl : cs.toList.length = 3 := by simpa using hsz
  have hcc : (Value.agg cs).cells.toList = cs.toList := rfl
  rw [hcc] at h0 h1
  match hcs : cs.toList, hcl with
  | [c0, c1, c2], _ =>
    rw [hcs] at h0 h1
    obtain ⟨ys, m1, e0, hy, hylen, hyl, hyel⟩ := DataW.trod_struct Try.underlying25 h0
    have k0 : DataW.trod enc Try.prog W 0 sp held m1 4 ((([c0, c1] : List Value).drop 0).take (Try.prog.cellsOf 4)) = ys[0]? := hyel 0 _ rfl
    have k1 : DataW.trod enc Try.prog W 0 sp held m1 23 ((([c0, c1] : List Value).drop 1).take (Try.prog.cellsOf 23)) = ys[1]? := hyel 1 _ rfl
    rw [cells_bool] at k0
    rw [cells_nat] at k1
    have hyl2 : ys.length = 2 := by simpa using hyl
    rw [List.getElem?_eq_getElem (by omega)] at k0 k1
    obtain ⟨b, hb, _⟩ := DataW.trod_bool Try.underlying4 k0
    simp at hb
    subst hb
    obtain ⟨a, n, c, zs, rfl, hz, hc, hm⟩ := slice_cell (c := c1) k1
    obtain ⟨a2, n2, k2, zs2, rfl, hz2, hc2, hm2⟩ := slice_cell (c := c2) h1
    exact ⟨b, _, _, _, zs, _, _, _, zs2, by rw [three_cells hcs], hz, hc, hm, hz2, hc2, hm2⟩

end Go.Proofs.Ytohciicocaoagaa

/- Of any two numbers that are not one half of their sum lies between. No condition. -/
namespace Go.Proofs.Ytohciicocaoagaa.lawRatBetween
open Go.ChangeShapes Go.WideShapes Go.ChangeAt Go.RowKit Limb
set_option linter.unusedVariables false

set_option maxHeartbeats 400000000 in
set_option maxRecDepth 100000 in
theorem walk (g_a : Bool) (A_a : Option Addr) (n_a c_a : Nat) (xs_a : List Nat) (B_a : Option Addr) (m_a d_a : Nat) (ys_a : List Nat) (g_b : Bool) (A_b : Option Addr) (n_b c_b : Nat) (xs_b : List Nat) (B_b : Option Addr) (m_b d_b : Nat) (ys_b : List Nat) (w : World) (i_a : IsN w A_a n_a xs_a) (hc_a : n_a ≤ c_a) (hm_a : c_a ≤ maxLen) (j_a : IsN w B_a m_a ys_a) (kc_a : m_a ≤ d_a) (km_a : d_a ≤ maxLen) (i_b : IsN w A_b n_b xs_b) (hc_b : n_b ≤ c_b) (hm_b : c_b ≤ maxLen) (j_b : IsN w B_b m_b ys_b) (kc_b : m_b ≤ d_b) (km_b : d_b ≤ maxLen) :
    Calls Try.prog 6 #[.agg #[.bool g_a, .slice A_a n_a c_a, .slice B_a m_a d_a], .agg #[.bool g_b, .slice A_b n_b c_b, .slice B_b m_b d_b]] w fun e w' => e = .returned (.bool true) ∧ Below w.heap.size w w' := by
  have KL_a : max n_a m_a ≤ 9223372036854775807 := by
    have e : maxLen = 9223372036854775807 := by decide
    omega
  have h_a := QQ.of (s := g_a) i_a hc_a j_a kc_a (Nat.le_max_left n_a m_a) (Nat.le_max_right n_a m_a)
  generalize readQ g_a xs_a ys_a = o_a at h_a
  have KL_b : max n_b m_b ≤ 9223372036854775807 := by
    have e : maxLen = 9223372036854775807 := by decide
    omega
  have h_b := QQ.of (s := g_b) i_b hc_b j_b kc_b (Nat.le_max_left n_b m_b) (Nat.le_max_right n_b m_b)
  generalize readQ g_b xs_b ys_b = o_b at h_b
  have bw := bel_refl w
  have h_ra := row3_new w 28 (.bool g_a) (.slice A_a n_a c_a) (.slice B_a m_a d_a)
  have bn := below_new w (.cells #[Value.bool g_a, Value.slice A_a n_a c_a, Value.slice B_a m_a d_a] 28)
  replace h_a := h_a.below bn
  replace h_b := h_b.below bn
  replace bw := below_two bw bn
  clear bn
  have h_rb := row3_new (w.alloc (.cells #[Value.bool g_a, Value.slice A_a n_a c_a, Value.slice B_a m_a d_a] 28)) 28 (.bool g_b) (.slice A_b n_b c_b) (.slice B_b m_b d_b)
  have bn := below_new (w.alloc (.cells #[Value.bool g_a, Value.slice A_a n_a c_a, Value.slice B_a m_a d_a] 28)) (.cells #[Value.bool g_b, Value.slice A_b n_b c_b, Value.slice B_b m_b d_b] 28)
  replace h_a := h_a.below bn
  replace h_b := h_b.below bn
  replace h_ra := h_ra.below bn
  replace bw := below_two bw bn
  clear bn
  simp only [World.size_alloc] at h_rb
  go_enter Try.func6, Try.ntmps6
  go_wp2_with fail
  generalize (w.alloc (.cells #[Value.bool g_a, Value.slice A_a n_a c_a, Value.slice B_a m_a d_a] 28)).alloc (.cells #[Value.bool g_b, Value.slice A_b n_b c_b, Value.slice B_b m_b d_b] 28) = wP at *
  obtain ⟨q_b, eg⟩ : ∃ g, g = w.heap.size + 1 := ⟨_, rfl⟩
  rw [← eg] at h_rb ⊢
  clear eg
  obtain ⟨q_a, eg⟩ : ∃ g, g = w.heap.size := ⟨_, rfl⟩
  rw [← eg] at h_ra ⊢
  clear eg
  cases o_a with
  | none =>
    refine (refGood_c h_a KL_a false rfl).mono ?_
    rintro e w1 ⟨rfl, bn⟩
    replace h_a := h_a.below bn
    replace h_b := h_b.below bn
    replace h_ra := h_ra.below bn
    replace h_rb := h_rb.below bn
    replace bw := below_two bw bn
    clear bn
    go_wp2_with fail
    refine (wakes_any _).mono ?_
    rintro e w2 ⟨rfl, bn⟩
    replace h_a := h_a.below bn
    replace h_b := h_b.below bn
    replace h_ra := h_ra.below bn
    replace h_rb := h_rb.below bn
    replace bw := below_two bw bn
    clear bn
    go_wp2
    go_ret
    exact ⟨rfl, bw⟩
  | some z_a =>
    refine (refGood_c h_a KL_a true rfl).mono ?_
    rintro e w3 ⟨rfl, bn⟩
    replace h_a := h_a.below bn
    replace h_b := h_b.below bn
    replace h_ra := h_ra.below bn
    replace h_rb := h_rb.below bn
    replace bw := below_two bw bn
    clear bn
    have c_b0 := h_rb.c0
    have c_b1 := h_rb.c1
    have c_b2 := h_rb.c2
    go_wp2_with fail
    clear c_b0 c_b1 c_b2
    cases o_b with
    | none =>
      refine (refGood_c h_b KL_b false rfl).mono ?_
      rintro e w4 ⟨rfl, bn⟩
      replace h_a := h_a.below bn
      replace h_b := h_b.below bn
      replace h_ra := h_ra.below bn
      replace h_rb := h_rb.below bn
      replace bw := below_two bw bn
      clear bn
      go_wp2_with fail
      refine (wakes_any _).mono ?_
      rintro e w5 ⟨rfl, bn⟩
      replace h_a := h_a.below bn
      replace h_b := h_b.below bn
      replace h_ra := h_ra.below bn
      replace h_rb := h_rb.below bn
      replace bw := below_two bw bn
      clear bn
      go_wp2
      go_ret
      exact ⟨rfl, bw⟩
    | some z_b =>
      refine (refGood_c h_b KL_b true rfl).mono ?_
      rintro e w6 ⟨rfl, bn⟩
      replace h_a := h_a.below bn
      replace h_b := h_b.below bn
      replace h_ra := h_ra.below bn
      replace h_rb := h_rb.below bn
      replace bw := below_two bw bn
      clear bn
      obtain ⟨t1, t2, t3, t4, L1_a, L2_a, D_a⟩ := qq_told h_a
      clear i_a j_a
      subst t1
      subst t2
      subst t3
      replace h_a := t4
      clear t4
      obtain ⟨t1, t2, t3, t4, L1_b, L2_b, D_b⟩ := qq_told h_b
      clear i_b j_b
      subst t1
      subst t2
      subst t3
      replace h_b := t4
      clear t4
      by_cases hT : n_a + n_b + m_a + m_b ≤ 40
      case neg =>
        have hsum : (40 : Int) < (n_a : Int) + (n_b : Int) + (m_a : Int) + (m_b : Int) := by omega
        clear hT
        have c_a1 := h_ra.c1
        have c_a2 := h_ra.c2
        have c_b1 := h_rb.c1
        have c_b2 := h_rb.c2
        go_wp2_with fail
        clear c_a1 c_a2 c_b1 c_b2
        refine (wakes_any _).mono ?_
        rintro e w7 ⟨rfl, bn⟩
        replace h_a := h_a.below bn
        replace h_b := h_b.below bn
        replace h_ra := h_ra.below bn
        replace h_rb := h_rb.below bn
        replace bw := below_two bw bn
        clear bn
        go_wp2
        go_ret
        exact ⟨rfl, bw⟩
      have hsum : (n_a : Int) + (n_b : Int) + (m_a : Int) + (m_b : Int) ≤ (40 : Int) := by omega
      obtain ⟨z_s, z_h, z_t, x, F0, F1, F2, F3, F4, F5⟩ := between_facts D_a D_b hT
      have F0 := Lib.hid F0
      have F1 := Lib.hid F1
      have F2 := Lib.hid F2
      have F3 := Lib.hid F3
      have F4 := Lib.hid F4
      have F5 := Lib.hid F5
      have c_a0 := h_ra.c0
      have c_a1 := h_ra.c1
      have c_a2 := h_ra.c2
      have c_b0 := h_rb.c0
      have c_b1 := h_rb.c1
      have c_b2 := h_rb.c2
      go_wp2_with fail
      clear c_a0 c_a1 c_a2 c_b0 c_b1 c_b2
      refine (rAdd_c h_a h_b (by decide) (by decide) _ _ F1.out).mono ?_
      rintro e w8 ⟨A_s, n_s, c_s, B_s, m_s, d_s, rfl, h_s, bn⟩
      replace h_a := h_a.below bn
      replace h_b := h_b.below bn
      replace h_ra := h_ra.below bn
      replace h_rb := h_rb.below bn
      replace bw := below_two bw bn
      clear bn
      have h_rs := row3_new w8 28 (.bool (sg (oTop (some z_s)))) (.slice A_s n_s c_s) (.slice B_s m_s d_s)
      have bn := below_new w8 (.cells #[Value.bool (sg (oTop (some z_s))), Value.slice A_s n_s c_s, Value.slice B_s m_s d_s] 28)
      replace h_a := h_a.below bn
      replace h_b := h_b.below bn
      replace h_ra := h_ra.below bn
      replace h_rb := h_rb.below bn
      replace h_s := h_s.below bn
      replace bw := below_two bw bn
      clear bn
      go_wp2
      generalize w8.alloc (.cells #[Value.bool (sg (oTop (some z_s))), Value.slice A_s n_s c_s, Value.slice B_s m_s d_s] 28) = w9 at *
      obtain ⟨q_s, eg⟩ : ∃ g, g = w8.heap.size := ⟨_, rfl⟩
      rw [← eg] at h_rs ⊢
      clear eg
      generalize w9 = wS at *
      refine region_freex 7 2 5 [46, 47, 48, 45, 49, 50, 7] ?aF19 (fun wx => Below wS.heap.size wS wx) (fun k vv wx => match k with
          | 0 => vv = .agg #[.bool (sg (oTop (some z_s))), .slice A_s n_s c_s, .slice B_s m_s d_s]
          | 1 => ∃ (e0 : Option Addr) (e1 : Nat) (e2 : Nat) (e3 : Option Addr) (e4 : Nat) (e5 : Nat), vv = .agg #[.bool (sg (oTop (some z_t))), .slice e0 e1 e2, .slice e3 e4 e5] ∧ QT wx e0 e1 e2 e3 e4 e5 (some z_t)
          | 2 => ∃ (e0 : Option Addr) (e1 : Nat) (e2 : Nat) (e3 : Option Addr) (e4 : Nat) (e5 : Nat), vv = .tuple #[.agg #[.bool (sg (oTop (some z_h))), .slice e0 e1 e2, .slice e3 e4 e5], .int .i64 0] ∧ QT wx e0 e1 e2 e3 e4 e5 (some z_h)
          | 3 => ∃ (e0 : Option Addr) (e1 : Nat) (e2 : Nat) (e3 : Option Addr) (e4 : Nat) (e5 : Nat), vv = .tuple #[.agg #[.bool (sg (oTop (some z_h))), .slice e0 e1 e2, .slice e3 e4 e5], .int .i64 0] ∧ QT wx e0 e1 e2 e3 e4 e5 (some z_h)
          | 4 => ∃ (e0 : Option Addr) (e1 : Nat) (e2 : Nat) (e3 : Option Addr) (e4 : Nat) (e5 : Nat), vv = .agg #[.bool (sg (oTop (some z_h))), .slice e0 e1 e2, .slice e3 e4 e5] ∧ QT wx e0 e1 e2 e3 e4 e5 (some z_h)
          | 5 => vv = .int .i64 0
          | _ => ∃ (e0 : Nat), vv = .pointer (some ⟨e0, 0, none⟩) ∧ Row3 wx e0 28 (.bool false) (.slice none 0 0) (.slice none 0 0) ∧ Over wS e0 wx)
        (fun k => k == 6) (by kernel_rfl) ?haF19 rfl (by kernel_rfl) (by kernel_rfl) (by decide) rfl (by kernel_rfl) (by kernel_rfl) ?hyx19 (fun _ _ _ _ _ h => h) ?hSb19 ?hPb19 ?hS19 ?hop19 ?hfin19
      case haF19 =>
        intro vals
        simp only [fillAll, List.getElem?_cons_zero, List.getElem?_cons_succ, Act.put, List.setIfInBounds_toArray, List.set_cons_zero, List.set_cons_succ]
        exact rfl
      case hyx19 =>
        intro vals wr hS hd o ho
        obtain ⟨A_3_0, n_3_1, n_3_2, A_3_3, n_3_4, n_3_5, d3, h_3_0⟩ := hd 3 (by decide) (by decide)
        cases ho
        try dsimp only
        rw [d3]
        exact ⟨rfl, _, fun _ => rfl, rfl⟩
      case hSb19 => exact fun wx w2 hb hS => below_two hS hb
      case hPb19 =>
        intro k v wa wb hb h
        match k, h with
        | 0, h => exact h
        | 1, ⟨e0, e1, e2, e3, e4, e5, h1, g0⟩ => exact ⟨e0, e1, e2, e3, e4, e5, h1, g0.below hb⟩
        | 2, ⟨e0, e1, e2, e3, e4, e5, h1, g0⟩ => exact ⟨e0, e1, e2, e3, e4, e5, h1, g0.below hb⟩
        | 3, ⟨e0, e1, e2, e3, e4, e5, h1, g0⟩ => exact ⟨e0, e1, e2, e3, e4, e5, h1, g0.below hb⟩
        | 4, ⟨e0, e1, e2, e3, e4, e5, h1, g0⟩ => exact ⟨e0, e1, e2, e3, e4, e5, h1, g0.below hb⟩
        | 5, h => exact h
        | _ + 6, ⟨e0, h1, g0, g1⟩ => exact ⟨e0, h1, g0.below hb, g1.below hb⟩
      case hS19 => exact (Below.refl _ _).drew
      case hop19 =>
        refine .cons (k := 0) (.plain rfl ?_) (.cons (k := 1) (.plain rfl ?_) (.cons (k := 2) (.plain rfl ?_) (.cons (k := 3) (.plain rfl ?_) (.cons (k := 4) (.plain rfl ?_) (.cons (k := 5) (.plain rfl ?_) (.cons (k := 6) (.plain rfl ?_) (.nil)))))))
        all_goals intro vals wr hS hd KC hK
        all_goals (show Oper.wp _ _ _ _ _ _; dsimp only)
        · have z0 := (h_rs.below hS).c0
          have z1 := (h_rs.below hS).c1
          have z2 := (h_rs.below hS).c2
          go_simp
          refine hK _ _ rfl (Below.refl _ _) (by first | rfl | simp) (fun h => by cases h)
        · go_simp
          go_at_call 24
          with_reducible refine (rWhole_is 2 (by decide) (by decide) _ F0.out _).mono ?_
          rintro e w2 ⟨r0, r1, r2, r3, r4, r5, rfl, f0, bn_r⟩
          refine hK _ _ rfl bn_r ⟨_, _, _, _, _, _, rfl, f0⟩ (fun h => by cases h)
        · have d0 : vals 0 = _ := hd 0 (by decide +kernel)
          obtain ⟨A_1_0, n_1_1, n_1_2, A_1_3, n_1_4, n_1_5, d1, h_1_0⟩ := hd 1 (by decide +kernel)
          rw [d0, d1]
          go_simp
          go_at_call 19
          with_reducible refine (rDiv_c (h_s.below hS) h_1_0 (by decide) (by decide) _ _ F2.out).mono ?_
          rintro e w2 ⟨r0, r1, r2, r3, r4, r5, rfl, f0, bn_r⟩
          refine hK _ _ rfl bn_r ⟨_, _, _, _, _, _, rfl, f0⟩ (fun h => by cases h)
        · obtain ⟨A_2_0, n_2_1, n_2_2, A_2_3, n_2_4, n_2_5, d2, h_2_0⟩ := hd 2 (by decide +kernel)
          rw [d2]
          go_simp
          refine hK _ _ rfl (Below.refl _ _) ⟨_, _, _, _, _, _, rfl, h_2_0⟩ (fun h => by cases h)
        · obtain ⟨A_3_0, n_3_1, n_3_2, A_3_3, n_3_4, n_3_5, d3, h_3_0⟩ := hd 3 (by decide +kernel)
          rw [d3]
          go_simp
          refine hK _ _ rfl (Below.refl _ _) ⟨_, _, _, _, _, _, rfl, h_3_0⟩ (fun h => by cases h)
        · obtain ⟨A_3_0, n_3_1, n_3_2, A_3_3, n_3_4, n_3_5, d3, h_3_0⟩ := hd 3 (by decide +kernel)
          rw [d3]
          go_simp
          refine hK _ _ rfl (Below.refl _ _) rfl (fun h => by cases h)
        · go_simp
          refine hK _ _ rfl (below_new _ _) ⟨_, rfl, row3_new wr _ _ _ _ , hS.size⟩ (fun _ => ⟨_, rfl, Nat.le_refl _, by rw [World.size_alloc]; omega⟩)
      case hfin19 =>
        intro vals wr hS hP hne
        obtain ⟨A_4_0, n_4_1, n_4_2, A_4_3, n_4_4, n_4_5, ez_4, h_4_0⟩ := hP 4 (by decide)
        have ez_5 : vals 5 = _ := hP 5 (by decide)
        obtain ⟨n_6_0, ez_6, h_6_0, h_6_1⟩ := hP 6 (by decide)
        have hNo := Row3.noLimb h_6_0 (by intro v e; cases e) (by intro v e; cases e) (by intro v e; cases e)
        have v0 := Row3.c0 h_6_0
        have v1 := Row3.c1 h_6_0
        have v2 := Row3.c2 h_6_0
        have y0 := Row3.free h_6_0 0
        have y1 := Row3.free h_6_0 1
        have y2 := Row3.free h_6_0 2
        have h_rh := Row3.fill h_6_0 (.bool (sg (oTop (some z_h)))) (.slice A_4_0 n_4_1 n_4_2) (.slice A_4_3 n_4_4 n_4_5)
        have h_h := QQ.fillR3 h_4_0 hNo (.bool (sg (oTop (some z_h)))) (.slice A_4_0 n_4_1 n_4_2) (.slice A_4_3 n_4_4 n_4_5)
        have bn := below_fill3' hS h_6_1 (.bool (sg (oTop (some z_h)))) (.slice A_4_0 n_4_1 n_4_2) (.slice A_4_3 n_4_4 n_4_5)
        clear hNo
        try dsimp only
        rw [ez_4, ez_5, ez_6]
        refine wpAny_ready (rs := [7]) (by kernel_rfl) (by simp) (AllReady.cons rfl (fun KC hK => ?_) AllReady.nil)
        go_simp
        refine hK _ _ ?_
        clear hK KC
        refine wpAny_ready (rs := [8]) (by kernel_rfl) (by simp) (AllReady.cons rfl (fun KC hK => ?_) AllReady.nil)
        go_simp
        refine hK _ _ ?_
        clear hK KC
        refine wpAny_done (by kernel_rfl) ?_ _
        generalize ((wr.setCell ⟨n_6_0, 0, none⟩ (.bool (sg (oTop (some z_h))))).setCell ⟨n_6_0, 1, none⟩ (.slice A_4_0 n_4_1 n_4_2)).setCell ⟨n_6_0, 2, none⟩ (.slice A_4_3 n_4_4 n_4_5) = w10 at *
        clear v0 v1 v2 y0 y1 y2 hS ez_4 ez_5 ez_6 h_6_0 h_6_1 h_4_0
        obtain ⟨q_h, A_h, n_h, c_h, B_h, m_h, d_h, eg⟩ : ∃ q A n c B m d, (q, A, n, c, B, m, d) = (n_6_0, A_4_0, n_4_1, n_4_2, A_4_3, n_4_4, n_4_5) := ⟨_, _, _, _, _, _, _, rfl⟩
        injection eg with e1 eg; injection eg with e2 eg; injection eg with e3 eg; injection eg with e4 eg; injection eg with e5 eg; injection eg with e6 e7
        subst e1 e2 e3 e4 e5 e6 e7
        replace h_a := h_a.below bn
        replace h_b := h_b.below bn
        replace h_ra := h_ra.below bn
        replace h_rb := h_rb.below bn
        replace h_s := h_s.below bn
        replace h_rs := h_rs.below bn
        replace bw := below_two bw bn
        clear bn
        have c_a0 := h_ra.c0
        have c_a1 := h_ra.c1
        have c_a2 := h_ra.c2
        have c_b0 := h_rb.c0
        have c_b1 := h_rb.c1
        have c_b2 := h_rb.c2
        go_wp2_with fail
        clear c_a0 c_a1 c_a2 c_b0 c_b1 c_b2
        refine (rCmp_c h_a h_b (by decide) (by decide) x F3.out).mono ?_
        rintro e w11 ⟨rfl, bn⟩
        replace h_a := h_a.below bn
        replace h_b := h_b.below bn
        replace h_ra := h_ra.below bn
        replace h_rb := h_rb.below bn
        replace h_s := h_s.below bn
        replace h_rs := h_rs.below bn
        replace h_h := h_h.below bn
        replace h_rh := h_rh.below bn
        replace bw := below_two bw bn
        clear bn
        have c_a0 := h_ra.c0
        have c_a1 := h_ra.c1
        have c_a2 := h_ra.c2
        have c_h0 := h_rh.c0
        have c_h1 := h_rh.c1
        have c_h2 := h_rh.c2
        go_wp2_with fail
        clear c_a0 c_a1 c_a2 c_h0 c_h1 c_h2
        refine (rCmp_c h_a h_h (by decide) (by decide) x F4.out).mono ?_
        rintro e w12 ⟨rfl, bn⟩
        replace h_a := h_a.below bn
        replace h_b := h_b.below bn
        replace h_ra := h_ra.below bn
        replace h_rb := h_rb.below bn
        replace h_s := h_s.below bn
        replace h_rs := h_rs.below bn
        replace h_h := h_h.below bn
        replace h_rh := h_rh.below bn
        replace bw := below_two bw bn
        clear bn
        have c_h0 := h_rh.c0
        have c_h1 := h_rh.c1
        have c_h2 := h_rh.c2
        have c_b0 := h_rb.c0
        have c_b1 := h_rb.c1
        have c_b2 := h_rb.c2
        go_wp2_with fail
        clear c_h0 c_h1 c_h2 c_b0 c_b1 c_b2
        refine (rCmp_c h_h h_b (by decide) (by decide) x F5.out).mono ?_
        rintro e w13 ⟨rfl, bn⟩
        replace h_a := h_a.below bn
        replace h_b := h_b.below bn
        replace h_ra := h_ra.below bn
        replace h_rb := h_rb.below bn
        replace h_s := h_s.below bn
        replace h_rs := h_rs.below bn
        replace h_h := h_h.below bn
        replace h_rh := h_rh.below bn
        replace bw := below_two bw bn
        clear bn
        go_wp2_with fail
        refine (wakes_any _).mono ?_
        rintro e w14 ⟨rfl, bn⟩
        replace h_a := h_a.below bn
        replace h_b := h_b.below bn
        replace h_ra := h_ra.below bn
        replace h_rb := h_rb.below bn
        replace h_s := h_s.below bn
        replace h_rs := h_rs.below bn
        replace h_h := h_h.below bn
        replace h_rh := h_rh.below bn
        replace bw := below_two bw bn
        clear bn
        go_wp2
        go_ret
        exact ⟨rfl, bw⟩

set_option maxRecDepth 100000 in
theorem lifted (os : Os) (started : os.Started) (H : Type) (enc : TypeId × Value → H) :
    ReturnsInHanded {} Try.checked os 6 .any (Rows.ratBetweenSpec.pre6 enc Try.prog Try.f6 Rows.ratBetweenRow.domain false) (Rows.ratBetweenSpec.post enc Try.prog Try.f6 false true false false) := by
  refine returnsInHanded_of_change (C := Try.checked) own started (by kernel_rfl) Try.func6
    (ChangeSpec.witness6 (enc := enc) (C := Try.checked) false ⟨#[], #[.agg #[.bool false, .slice none 0 0, .slice none 0 0], .agg #[.bool false, .slice none 0 0, .slice none 0 0]], []⟩ 8 (by kernel_rfl) (by kernel_rfl) (by kernel_rfl) (by kernel_rfl)) ?_
  intro W base args ds gs before hval0 hW hcnd _
  have hval : ∀ (j : Nat) t v, Try.f6.params[j]? = some t → args[j]? = some v → Value.okWide Try.prog W .any base t v := hval0
  have hW' := hW
  obtain ⟨p, q, hA0, hV, rfl, hfz, hnd⟩ := hW
  have hA : DataW.TrodAll enc Try.prog W 0 (fun _ => true) true Try.f6.params.toList args.toList ds p := hA0
  rw [Try.params6] at hA hval
  obtain ⟨v0, vs0, d0, ds0, p0, q0, hargs, rfl, rfl, h0, r0⟩ := trodAll_cons hA
  obtain ⟨v1, vs1, d1, ds1, p1, q1, rfl, rfl, rfl, h1, r1⟩ := trodAll_cons r0
  obtain ⟨rfl, rfl, rfl⟩ := trodAll_nil r1
  obtain rfl : args = #[v0, v1] := by cases args; simp_all
  obtain ⟨rfl, rfl⟩ := trodVars_none hV
  obtain ⟨b0, a0, len0, cap0, z0, e0, lem0, dap0, y0, rfl, i0, hc0, hm0, k0, kc0, km0⟩ := open_rat (hval 0 28 v0 rfl rfl) h0
  obtain ⟨b1, a1, len1, cap1, z1, e1, lem1, dap1, y1, rfl, i1, hc1, hm1, k1, kc1, km1⟩ := open_rat (hval 1 28 v1 rfl rfl) h1
  clear hA0 hval0
  refine (walk b0 a0 len0 cap0 z0 e0 lem0 dap0 y0 b1 a1 len1 cap1 z1 e1 lem1 dap1 y1 W i0 hc0 hm0 k0 kc0 km0 i1 hc1 hm1 k1 kc1 km1).mono fun e W' ⟨he, bel⟩ => ?_
  subst he
  exact ⟨_, rfl, _, _, _, [], _, [], hW', trodAll_mk1 (shut_bool Try.underlying4 _), (trodAll_cons_mk (Below.trod laidOut (by kernel_rfl) (of_decide_eq_true (by kernel_rfl)) h0 bel (places_lt h0)) (trodAll_cons_mk (Below.trod laidOut (by kernel_rfl) (of_decide_eq_true (by kernel_rfl)) h1 bel (places_lt h1)) trodAll_mk0)), rfl, bel.frame _, fun h => by cases h⟩

theorem over : Rows.ratBetweenRow.holds Try.pinned (OpenSpec.ofChange Rows.ratBetweenSpec) :=
  OpenClaim.holds_of_wide 6 Try.f6 rfl rfl rfl rfl rfl rfl rfl ⟨rfl, rfl, rfl, rfl, rfl⟩ rfl rfl rfl rfl rfl (by kernel_rfl) Try.func6 (by kernel_rfl)
    (of_decide_eq_true (by kernel_rfl)) (by unfold Func.isWrapper; first | (rw [if_pos (by decide +kernel)]; kernel_rfl) | (rw [if_neg (by decide +kernel)]; exact ⟨rfl, rfl⟩))
    (fun os started H enc _ => lifted os started H enc)

theorem proved : Rows.RatBetweenSaid := over

end Go.Proofs.Ytohciicocaoagaa.lawRatBetween
