/- Of any three rational numbers of few limbs: the order goes with sums and products. No condition. -/
import Derived.Test.YtohciicocaoagaaM8
import Derived.ChangeMaps5
/- How an argument that is a rational number is opened: a struct of a struct of a sign and a list of limbs, and of a list of limbs. No condition. -/
namespace Go.Proofs.Ytohciicocaoagaa
open Go.ChangeShapes Go.WideShapes Go.ChangeAt Go.RowKit Limb
set_option linter.unusedVariables false

theorem cells_rat : Try.prog.cellsOf 28 = 3 := by kernel_rfl

theorem three_cells {cs : Array Value} {u v x : Value} (h : cs.toList = [u, v, x]) : cs = #[u, v, x] := by
  obtain ⟨l⟩ := cs
  have h2 : l = [u, v, x] := h
  rw [h2]

/-- A slice of limbs among the cells of a struct. -/
theorem slice_cell {H : Type} {enc : TypeId × Value → H} {W : World} {sp : Nat → Bool} {held : Bool} {m : Nat} {c : Value} {x : DataW H × List MemPlace}
    (h : DataW.trod enc Try.prog W 0 sp held m 23 [c] = some x) : ∃ (a : Option Addr) (n k : Nat) (zs : List Nat), c = .slice a n k ∧ IsN W a n zs ∧ n ≤ k ∧ k ≤ maxLen := by
  have h2 : DataW.Trod enc Try.prog W 0 sp held 23 c x.1 x.2 := by
    rcases DataW.trod_slice Try.underlying23 h with ⟨e, _⟩ | ⟨a, l, k, es, rs, m2, _, e, _⟩
    · simp at e; subst e; exact ⟨_, h⟩
    · simp at e; subst e; exact ⟨_, h⟩
  rcases DataW.trod_slice Try.underlying23 h with ⟨e, _⟩ | ⟨a, l, k, es, rs, m2, _, e, _⟩
  · simp at e; subst e
    obtain ⟨zs, hz, hc, hm, _⟩ := open_nat h2
    exact ⟨_, _, _, zs, rfl, hz, hc, hm⟩
  · simp at e; subst e
    obtain ⟨zs, hz, hc, hm, _⟩ := open_nat h2
    exact ⟨_, _, _, zs, rfl, hz, hc, hm⟩

set_option maxRecDepth 100000 in
theorem open_rat {H : Type} {enc : TypeId × Value → H} {W : World} {r : Reach} {b0 : Nat} {sp : Nat → Bool} {held : Bool} {v : Value} {d : DataW H} {p : List MemPlace}
    (hok : Value.okWide Try.prog W r b0 28 v) (h : DataW.Trod enc Try.prog W 0 sp held 28 v d p) :
    ∃ (s : Bool) (a : Option Addr) (n c : Nat) (xs : List Nat) (b : Option Addr) (m k : Nat) (ys : List Nat), v = .agg #[.bool s, .slice a n c, .slice b m k] ∧ IsN W a n xs ∧ n ≤ c ∧ c ≤ maxLen ∧ IsN W b m ys ∧ m ≤ k ∧ k ≤ maxLen := by
  obtain ⟨cs, rfl, hsz⟩ := okWide_struct Try.underlying28 hok
  rw [cells_rat] at hsz
  obtain ⟨fuel, hf⟩ := h
  obtain ⟨xs, m, rfl, hx, hlen, hxl, hel⟩ := DataW.trod_struct Try.underlying28 hf
  have h0 : DataW.trod enc Try.prog W 0 sp held m 25 (((Value.agg cs).cells.toList.drop 0).take (Try.prog.cellsOf 25)) = xs[0]? := hel 0 _ rfl
  have h1 : DataW.trod enc Try.prog W 0 sp held m 23 (((Value.agg cs).cells.toList.drop 2).take (Try.prog.cellsOf 23)) = xs[1]? := hel 1 _ rfl
  rw [cells_int] at h0
  rw [cells_nat] at h1
  have hxl2 : xs.length = 2 := by simpa using hxl
  rw [List.getElem?_eq_getElem (by omega)] at h0 h1
  have hcl : cs.toList.length = 3 := by simpa using hsz
  have hcc : (Value.agg cs).cells.toList = cs.toList := rfl
  rw [hcc] at h0 h1
  match hcs : cs.toList, hcl with
  | [c0, c1, c2], _ =>
    rw [hcs] at h0 h1
    obtain ⟨ys, m1, e0, hy, hylen, hyl, hyel⟩ := DataW.trod_struct Try.underlying25 h0
    have k0 : DataW.trod enc Try.prog W 0 sp held m1 4 ((([c0, c1] : List Value).drop 0).take (Try.prog.cellsOf 4)) = ys[0]? := hyel 0 _ rfl
    have k1 : DataW.trod enc Try.prog W 0 sp held m1 23 ((([c0, c1] : List Value).drop 1).take (Try.prog.cellsOf 23)) = ys[1]? := hyel 1 _ rfl
    rw [cells_bool] at k0
    rw [cells_nat] at k1
    have hyl2 : ys.length = 2 := by simpa using hyl
    rw [List.getElem?_eq_getElem (by omega)] at k0 k1
    obtain ⟨b, hb, _⟩ := DataW.trod_bool Try.underlying4 k0
    simp at hb
    subst hb
    obtain ⟨a, n, c, zs, rfl, hz, hc, hm⟩ := slice_cell (c := c1) k1
    obtain ⟨a2, n2, k2, zs2, rfl, hz2, hc2, hm2⟩ := slice_cell (c := c2) h1
    exact ⟨b, _, _, _, zs, _, _, _, zs2, by rw [three_cells hcs], hz, hc, hm, hz2, hc2, hm2⟩

end Go.Proofs.Ytohciicocaoagaa

/- Of any three rational numbers of few limbs: the order goes with sums and products. No condition. -/
namespace Go.Proofs.Ytohciicocaoagaa.lawRatOrder
open Go.ChangeShapes Go.WideShapes Go.ChangeAt Go.RowKit Limb
set_option linter.unusedVariables false

set_option maxHeartbeats 400000000 in
set_option maxRecDepth 100000 in
theorem walk (g_a : Bool) (A_a : Option Addr) (n_a c_a : Nat) (xs_a : List Nat) (B_a : Option Addr) (m_a d_a : Nat) (ys_a : List Nat) (g_b : Bool) (A_b : Option Addr) (n_b c_b : Nat) (xs_b : List Nat) (B_b : Option Addr) (m_b d_b : Nat) (ys_b : List Nat) (g_c : Bool) (A_c : Option Addr) (n_c c_c : Nat) (xs_c : List Nat) (B_c : Option Addr) (m_c d_c : Nat) (ys_c : List Nat) (w : World) (i_a : IsN w A_a n_a xs_a) (hc_a : n_a ≤ c_a) (hm_a : c_a ≤ maxLen) (j_a : IsN w B_a m_a ys_a) (kc_a : m_a ≤ d_a) (km_a : d_a ≤ maxLen) (i_b : IsN w A_b n_b xs_b) (hc_b : n_b ≤ c_b) (hm_b : c_b ≤ maxLen) (j_b : IsN w B_b m_b ys_b) (kc_b : m_b ≤ d_b) (km_b : d_b ≤ maxLen) (i_c : IsN w A_c n_c xs_c) (hc_c : n_c ≤ c_c) (hm_c : c_c ≤ maxLen) (j_c : IsN w B_c m_c ys_c) (kc_c : m_c ≤ d_c) (km_c : d_c ≤ maxLen) :
    Calls Try.prog 5 #[.agg #[.bool g_a, .slice A_a n_a c_a, .slice B_a m_a d_a], .agg #[.bool g_b, .slice A_b n_b c_b, .slice B_b m_b d_b], .agg #[.bool g_c, .slice A_c n_c c_c, .slice B_c m_c d_c]] w fun e w' => e = .returned (.bool true) ∧ Below w.heap.size w w' := by
  have KL_a : max n_a m_a ≤ 9223372036854775807 := by
    have e : maxLen = 9223372036854775807 := by decide
    omega
  have h_a := QQ.of (s := g_a) i_a hc_a j_a kc_a (Nat.le_max_left n_a m_a) (Nat.le_max_right n_a m_a)
  generalize readQ g_a xs_a ys_a = o_a at h_a
  have KL_b : max n_b m_b ≤ 9223372036854775807 := by
    have e : maxLen = 9223372036854775807 := by decide
    omega
  have h_b := QQ.of (s := g_b) i_b hc_b j_b kc_b (Nat.le_max_left n_b m_b) (Nat.le_max_right n_b m_b)
  generalize readQ g_b xs_b ys_b = o_b at h_b
  have KL_c : max n_c m_c ≤ 9223372036854775807 := by
    have e : maxLen = 9223372036854775807 := by decide
    omega
  have h_c := QQ.of (s := g_c) i_c hc_c j_c kc_c (Nat.le_max_left n_c m_c) (Nat.le_max_right n_c m_c)
  generalize readQ g_c xs_c ys_c = o_c at h_c
  have bw := bel_refl w
  have h_ra := row3_new w 28 (.bool g_a) (.slice A_a n_a c_a) (.slice B_a m_a d_a)
  have bn := below_new w (.cells #[Value.bool g_a, Value.slice A_a n_a c_a, Value.slice B_a m_a d_a] 28)
  replace h_a := h_a.below bn
  replace h_b := h_b.below bn
  replace h_c := h_c.below bn
  replace bw := below_two bw bn
  clear bn
  have h_rb := row3_new (w.alloc (.cells #[Value.bool g_a, Value.slice A_a n_a c_a, Value.slice B_a m_a d_a] 28)) 28 (.bool g_b) (.slice A_b n_b c_b) (.slice B_b m_b d_b)
  have bn := below_new (w.alloc (.cells #[Value.bool g_a, Value.slice A_a n_a c_a, Value.slice B_a m_a d_a] 28)) (.cells #[Value.bool g_b, Value.slice A_b n_b c_b, Value.slice B_b m_b d_b] 28)
  replace h_a := h_a.below bn
  replace h_b := h_b.below bn
  replace h_c := h_c.below bn
  replace h_ra := h_ra.below bn
  replace bw := below_two bw bn
  clear bn
  have h_rc := row3_new ((w.alloc (.cells #[Value.bool g_a, Value.slice A_a n_a c_a, Value.slice B_a m_a d_a] 28)).alloc (.cells #[Value.bool g_b, Value.slice A_b n_b c_b, Value.slice B_b m_b d_b] 28)) 28 (.bool g_c) (.slice A_c n_c c_c) (.slice B_c m_c d_c)
  have bn := below_new ((w.alloc (.cells #[Value.bool g_a, Value.slice A_a n_a c_a, Value.slice B_a m_a d_a] 28)).alloc (.cells #[Value.bool g_b, Value.slice A_b n_b c_b, Value.slice B_b m_b d_b] 28)) (.cells #[Value.bool g_c, Value.slice A_c n_c c_c, Value.slice B_c m_c d_c] 28)
  replace h_a := h_a.below bn
  replace h_b := h_b.below bn
  replace h_c := h_c.below bn
  replace h_ra := h_ra.below bn
  replace h_rb := h_rb.below bn
  replace bw := below_two bw bn
  clear bn
  simp only [World.size_alloc] at h_rb h_rc
  go_enter Try.func5, Try.ntmps5
  go_wp2_with fail
  generalize ((w.alloc (.cells #[Value.bool g_a, Value.slice A_a n_a c_a, Value.slice B_a m_a d_a] 28)).alloc (.cells #[Value.bool g_b, Value.slice A_b n_b c_b, Value.slice B_b m_b d_b] 28)).alloc (.cells #[Value.bool g_c, Value.slice A_c n_c c_c, Value.slice B_c m_c d_c] 28) = wP at *
  obtain ⟨q_c, eg⟩ : ∃ g, g = w.heap.size + 1 + 1 := ⟨_, rfl⟩
  rw [← eg] at h_rc ⊢
  clear eg
  obtain ⟨q_b, eg⟩ : ∃ g, g = w.heap.size + 1 := ⟨_, rfl⟩
  rw [← eg] at h_rb ⊢
  clear eg
  obtain ⟨q_a, eg⟩ : ∃ g, g = w.heap.size := ⟨_, rfl⟩
  rw [← eg] at h_ra ⊢
  clear eg
  cases o_a with
  | none =>
    refine (refGood_c h_a KL_a false rfl).mono ?_
    rintro e w1 ⟨rfl, bn⟩
    replace h_a := h_a.below bn
    replace h_b := h_b.below bn
    replace h_c := h_c.below bn
    replace h_ra := h_ra.below bn
    replace h_rb := h_rb.below bn
    replace h_rc := h_rc.below bn
    replace bw := below_two bw bn
    clear bn
    go_wp2_with fail
    refine (wakes_any _).mono ?_
    rintro e w2 ⟨rfl, bn⟩
    replace h_a := h_a.below bn
    replace h_b := h_b.below bn
    replace h_c := h_c.below bn
    replace h_ra := h_ra.below bn
    replace h_rb := h_rb.below bn
    replace h_rc := h_rc.below bn
    replace bw := below_two bw bn
    clear bn
    go_wp2
    go_ret
    exact ⟨rfl, bw⟩
  | some z_a =>
    refine (refGood_c h_a KL_a true rfl).mono ?_
    rintro e w3 ⟨rfl, bn⟩
    replace h_a := h_a.below bn
    replace h_b := h_b.below bn
    replace h_c := h_c.below bn
    replace h_ra := h_ra.below bn
    replace h_rb := h_rb.below bn
    replace h_rc := h_rc.below bn
    replace bw := below_two bw bn
    clear bn
    have c_b0 := h_rb.c0
    have c_b1 := h_rb.c1
    have c_b2 := h_rb.c2
    go_wp2_with fail
    clear c_b0 c_b1 c_b2
    cases o_b with
    | none =>
      refine (refGood_c h_b KL_b false rfl).mono ?_
      rintro e w4 ⟨rfl, bn⟩
      replace h_a := h_a.below bn
      replace h_b := h_b.below bn
      replace h_c := h_c.below bn
      replace h_ra := h_ra.below bn
      replace h_rb := h_rb.below bn
      replace h_rc := h_rc.below bn
      replace bw := below_two bw bn
      clear bn
      go_wp2_with fail
      refine (wakes_any _).mono ?_
      rintro e w5 ⟨rfl, bn⟩
      replace h_a := h_a.below bn
      replace h_b := h_b.below bn
      replace h_c := h_c.below bn
      replace h_ra := h_ra.below bn
      replace h_rb := h_rb.below bn
      replace h_rc := h_rc.below bn
      replace bw := below_two bw bn
      clear bn
      go_wp2
      go_ret
      exact ⟨rfl, bw⟩
    | some z_b =>
      refine (refGood_c h_b KL_b true rfl).mono ?_
      rintro e w6 ⟨rfl, bn⟩
      replace h_a := h_a.below bn
      replace h_b := h_b.below bn
      replace h_c := h_c.below bn
      replace h_ra := h_ra.below bn
      replace h_rb := h_rb.below bn
      replace h_rc := h_rc.below bn
      replace bw := below_two bw bn
      clear bn
      have c_c0 := h_rc.c0
      have c_c1 := h_rc.c1
      have c_c2 := h_rc.c2
      go_wp2_with fail
      clear c_c0 c_c1 c_c2
      cases o_c with
      | none =>
        refine (refGood_c h_c KL_c false rfl).mono ?_
        rintro e w7 ⟨rfl, bn⟩
        replace h_a := h_a.below bn
        replace h_b := h_b.below bn
        replace h_c := h_c.below bn
        replace h_ra := h_ra.below bn
        replace h_rb := h_rb.below bn
        replace h_rc := h_rc.below bn
        replace bw := below_two bw bn
        clear bn
        go_wp2_with fail
        refine (wakes_any _).mono ?_
        rintro e w8 ⟨rfl, bn⟩
        replace h_a := h_a.below bn
        replace h_b := h_b.below bn
        replace h_c := h_c.below bn
        replace h_ra := h_ra.below bn
        replace h_rb := h_rb.below bn
        replace h_rc := h_rc.below bn
        replace bw := below_two bw bn
        clear bn
        go_wp2
        go_ret
        exact ⟨rfl, bw⟩
      | some z_c =>
        refine (refGood_c h_c KL_c true rfl).mono ?_
        rintro e w9 ⟨rfl, bn⟩
        replace h_a := h_a.below bn
        replace h_b := h_b.below bn
        replace h_c := h_c.below bn
        replace h_ra := h_ra.below bn
        replace h_rb := h_rb.below bn
        replace h_rc := h_rc.below bn
        replace bw := below_two bw bn
        clear bn
        obtain ⟨t1, t2, t3, t4, L1_a, L2_a, D_a⟩ := qq_told h_a
        clear i_a j_a
        subst t1
        subst t2
        subst t3
        replace h_a := t4
        clear t4
        obtain ⟨t1, t2, t3, t4, L1_b, L2_b, D_b⟩ := qq_told h_b
        clear i_b j_b
        subst t1
        subst t2
        subst t3
        replace h_b := t4
        clear t4
        obtain ⟨t1, t2, t3, t4, L1_c, L2_c, D_c⟩ := qq_told h_c
        clear i_c j_c
        subst t1
        subst t2
        subst t3
        replace h_c := t4
        clear t4
        by_cases hT : n_a + n_b + n_c + m_a + m_b + m_c ≤ 40
        case neg =>
          have hsum : (40 : Int) < (n_a : Int) + (n_b : Int) + (n_c : Int) + (m_a : Int) + (m_b : Int) + (m_c : Int) := by omega
          clear hT
          have c_a1 := h_ra.c1
          have c_a2 := h_ra.c2
          have c_b1 := h_rb.c1
          have c_b2 := h_rb.c2
          have c_c1 := h_rc.c1
          have c_c2 := h_rc.c2
          go_wp2_with fail
          clear c_a1 c_a2 c_b1 c_b2 c_c1 c_c2
          refine (wakes_any _).mono ?_
          rintro e w10 ⟨rfl, bn⟩
          replace h_a := h_a.below bn
          replace h_b := h_b.below bn
          replace h_c := h_c.below bn
          replace h_ra := h_ra.below bn
          replace h_rb := h_rb.below bn
          replace h_rc := h_rc.below bn
          replace bw := below_two bw bn
          clear bn
          go_wp2
          go_ret
          exact ⟨rfl, bw⟩
        have hsum : (n_a : Int) + (n_b : Int) + (n_c : Int) + (m_a : Int) + (m_b : Int) + (m_c : Int) ≤ (40 : Int) := by omega
        obtain ⟨z_s, z_t, z_p, z_q, z_d, x, y, u, v, F0, F1, F2, F3, F4, F5, F6, F7, F8, F9, F10, F11, e1, e2, e3, F12, F13⟩ := order_facts D_a D_b D_c hT
        have F0 := Lib.hid F0
        have F1 := Lib.hid F1
        have F2 := Lib.hid F2
        have F3 := Lib.hid F3
        have F4 := Lib.hid F4
        have F5 := Lib.hid F5
        have F6 := Lib.hid F6
        have F7 := Lib.hid F7
        have F8 := Lib.hid F8
        have F9 := Lib.hid F9
        have F10 := Lib.hid F10
        have F11 := Lib.hid F11
        have F12 := Lib.hid F12
        have F13 := Lib.hid F13
        have c_a0 := h_ra.c0
        have c_a1 := h_ra.c1
        have c_a2 := h_ra.c2
        have c_b0 := h_rb.c0
        have c_b1 := h_rb.c1
        have c_b2 := h_rb.c2
        have c_c0 := h_rc.c0
        have c_c1 := h_rc.c1
        have c_c2 := h_rc.c2
        go_wp2_with fail
        clear c_a0 c_a1 c_a2 c_b0 c_b1 c_b2 c_c0 c_c1 c_c2
        refine (rCmp_c h_a h_b (by decide) (by decide) x F5.out).mono ?_
        rintro e w11 ⟨rfl, bn⟩
        replace h_a := h_a.below bn
        replace h_b := h_b.below bn
        replace h_c := h_c.below bn
        replace h_ra := h_ra.below bn
        replace h_rb := h_rb.below bn
        replace h_rc := h_rc.below bn
        replace bw := below_two bw bn
        clear bn
        have c_a0 := h_ra.c0
        have c_a1 := h_ra.c1
        have c_a2 := h_ra.c2
        have c_c0 := h_rc.c0
        have c_c1 := h_rc.c1
        have c_c2 := h_rc.c2
        go_wp2_with fail
        clear c_a0 c_a1 c_a2 c_c0 c_c1 c_c2
        refine (rAdd_c h_a h_c (by decide) (by decide) _ _ F0.out).mono ?_
        rintro e w12 ⟨A_s, n_s, c_s, B_s, m_s, d_s, rfl, h_s, bn⟩
        replace h_a := h_a.below bn
        replace h_b := h_b.below bn
        replace h_c := h_c.below bn
        replace h_ra := h_ra.below bn
        replace h_rb := h_rb.below bn
        replace h_rc := h_rc.below bn
        replace bw := below_two bw bn
        clear bn
        have h_rs := row3_new w12 28 (.bool (sg (oTop (some z_s)))) (.slice A_s n_s c_s) (.slice B_s m_s d_s)
        have bn := below_new w12 (.cells #[Value.bool (sg (oTop (some z_s))), Value.slice A_s n_s c_s, Value.slice B_s m_s d_s] 28)
        replace h_a := h_a.below bn
        replace h_b := h_b.below bn
        replace h_c := h_c.below bn
        replace h_ra := h_ra.below bn
        replace h_rb := h_rb.below bn
        replace h_rc := h_rc.below bn
        replace h_s := h_s.below bn
        replace bw := below_two bw bn
        clear bn
        have c_b0 := h_rb.c0
        have c_b1 := h_rb.c1
        have c_b2 := h_rb.c2
        have c_c0 := h_rc.c0
        have c_c1 := h_rc.c1
        have c_c2 := h_rc.c2
        go_wp2_with fail
        clear c_b0 c_b1 c_b2 c_c0 c_c1 c_c2
        generalize w12.alloc (.cells #[Value.bool (sg (oTop (some z_s))), Value.slice A_s n_s c_s, Value.slice B_s m_s d_s] 28) = w13 at *
        obtain ⟨q_s, eg⟩ : ∃ g, g = w12.heap.size := ⟨_, rfl⟩
        rw [← eg] at h_rs ⊢
        clear eg
        refine (rAdd_c h_b h_c (by decide) (by decide) _ _ F1.out).mono ?_
        rintro e w14 ⟨A_t, n_t, c_t, B_t, m_t, d_t, rfl, h_t, bn⟩
        replace h_a := h_a.below bn
        replace h_b := h_b.below bn
        replace h_c := h_c.below bn
        replace h_ra := h_ra.below bn
        replace h_rb := h_rb.below bn
        replace h_rc := h_rc.below bn
        replace h_s := h_s.below bn
        replace h_rs := h_rs.below bn
        replace bw := below_two bw bn
        clear bn
        have h_rt := row3_new w14 28 (.bool (sg (oTop (some z_t)))) (.slice A_t n_t c_t) (.slice B_t m_t d_t)
        have bn := below_new w14 (.cells #[Value.bool (sg (oTop (some z_t))), Value.slice A_t n_t c_t, Value.slice B_t m_t d_t] 28)
        replace h_a := h_a.below bn
        replace h_b := h_b.below bn
        replace h_c := h_c.below bn
        replace h_ra := h_ra.below bn
        replace h_rb := h_rb.below bn
        replace h_rc := h_rc.below bn
        replace h_s := h_s.below bn
        replace h_rs := h_rs.below bn
        replace h_t := h_t.below bn
        replace bw := below_two bw bn
        clear bn
        have c_a0 := h_ra.c0
        have c_a1 := h_ra.c1
        have c_a2 := h_ra.c2
        have c_c0 := h_rc.c0
        have c_c1 := h_rc.c1
        have c_c2 := h_rc.c2
        go_wp2_with fail
        clear c_a0 c_a1 c_a2 c_c0 c_c1 c_c2
        generalize w14.alloc (.cells #[Value.bool (sg (oTop (some z_t))), Value.slice A_t n_t c_t, Value.slice B_t m_t d_t] 28) = w15 at *
        obtain ⟨q_t, eg⟩ : ∃ g, g = w14.heap.size := ⟨_, rfl⟩
        rw [← eg] at h_rt ⊢
        clear eg
        refine (rMul_c h_a h_c (by decide) (by decide) _ _ F2.out).mono ?_
        rintro e w16 ⟨A_p, n_p, c_p, B_p, m_p, d_p, rfl, h_p, bn⟩
        replace h_a := h_a.below bn
        replace h_b := h_b.below bn
        replace h_c := h_c.below bn
        replace h_ra := h_ra.below bn
        replace h_rb := h_rb.below bn
        replace h_rc := h_rc.below bn
        replace h_s := h_s.below bn
        replace h_rs := h_rs.below bn
        replace h_t := h_t.below bn
        replace h_rt := h_rt.below bn
        replace bw := below_two bw bn
        clear bn
        have h_rp := row3_new w16 28 (.bool (sg (oTop (some z_p)))) (.slice A_p n_p c_p) (.slice B_p m_p d_p)
        have bn := below_new w16 (.cells #[Value.bool (sg (oTop (some z_p))), Value.slice A_p n_p c_p, Value.slice B_p m_p d_p] 28)
        replace h_a := h_a.below bn
        replace h_b := h_b.below bn
        replace h_c := h_c.below bn
        replace h_ra := h_ra.below bn
        replace h_rb := h_rb.below bn
        replace h_rc := h_rc.below bn
        replace h_s := h_s.below bn
        replace h_rs := h_rs.below bn
        replace h_t := h_t.below bn
        replace h_rt := h_rt.below bn
        replace h_p := h_p.below bn
        replace bw := below_two bw bn
        clear bn
        have c_b0 := h_rb.c0
        have c_b1 := h_rb.c1
        have c_b2 := h_rb.c2
        have c_c0 := h_rc.c0
        have c_c1 := h_rc.c1
        have c_c2 := h_rc.c2
        go_wp2_with fail
        clear c_b0 c_b1 c_b2 c_c0 c_c1 c_c2
        generalize w16.alloc (.cells #[Value.bool (sg (oTop (some z_p))), Value.slice A_p n_p c_p, Value.slice B_p m_p d_p] 28) = w17 at *
        obtain ⟨q_p, eg⟩ : ∃ g, g = w16.heap.size := ⟨_, rfl⟩
        rw [← eg] at h_rp ⊢
        clear eg
        refine (rMul_c h_b h_c (by decide) (by decide) _ _ F3.out).mono ?_
        rintro e w18 ⟨A_q, n_q, c_q, B_q, m_q, d_q, rfl, h_q, bn⟩
        replace h_a := h_a.below bn
        replace h_b := h_b.below bn
        replace h_c := h_c.below bn
        replace h_ra := h_ra.below bn
        replace h_rb := h_rb.below bn
        replace h_rc := h_rc.below bn
        replace h_s := h_s.below bn
        replace h_rs := h_rs.below bn
        replace h_t := h_t.below bn
        replace h_rt := h_rt.below bn
        replace h_p := h_p.below bn
        replace h_rp := h_rp.below bn
        replace bw := below_two bw bn
        clear bn
        have h_rq := row3_new w18 28 (.bool (sg (oTop (some z_q)))) (.slice A_q n_q c_q) (.slice B_q m_q d_q)
        have bn := below_new w18 (.cells #[Value.bool (sg (oTop (some z_q))), Value.slice A_q n_q c_q, Value.slice B_q m_q d_q] 28)
        replace h_a := h_a.below bn
        replace h_b := h_b.below bn
        replace h_c := h_c.below bn
        replace h_ra := h_ra.below bn
        replace h_rb := h_rb.below bn
        replace h_rc := h_rc.below bn
        replace h_s := h_s.below bn
        replace h_rs := h_rs.below bn
        replace h_t := h_t.below bn
        replace h_rt := h_rt.below bn
        replace h_p := h_p.below bn
        replace h_rp := h_rp.below bn
        replace h_q := h_q.below bn
        replace bw := below_two bw bn
        clear bn
        have c_a0 := h_ra.c0
        have c_a1 := h_ra.c1
        have c_a2 := h_ra.c2
        have c_b0 := h_rb.c0
        have c_b1 := h_rb.c1
        have c_b2 := h_rb.c2
        go_wp2_with fail
        clear c_a0 c_a1 c_a2 c_b0 c_b1 c_b2
        generalize w18.alloc (.cells #[Value.bool (sg (oTop (some z_q))), Value.slice A_q n_q c_q, Value.slice B_q m_q d_q] 28) = w19 at *
        obtain ⟨q_q, eg⟩ : ∃ g, g = w18.heap.size := ⟨_, rfl⟩
        rw [← eg] at h_rq ⊢
        clear eg
        refine (rSub_c h_a h_b (by decide) (by decide) _ _ F4.out).mono ?_
        rintro e w20 ⟨A_d, n_d, c_d, B_d, m_d, d_d, rfl, h_d, bn⟩
        replace h_a := h_a.below bn
        replace h_b := h_b.below bn
        replace h_c := h_c.below bn
        replace h_ra := h_ra.below bn
        replace h_rb := h_rb.below bn
        replace h_rc := h_rc.below bn
        replace h_s := h_s.below bn
        replace h_rs := h_rs.below bn
        replace h_t := h_t.below bn
        replace h_rt := h_rt.below bn
        replace h_p := h_p.below bn
        replace h_rp := h_rp.below bn
        replace h_q := h_q.below bn
        replace h_rq := h_rq.below bn
        replace bw := below_two bw bn
        clear bn
        have h_rd := row3_new w20 28 (.bool (sg (oTop (some z_d)))) (.slice A_d n_d c_d) (.slice B_d m_d d_d)
        have bn := below_new w20 (.cells #[Value.bool (sg (oTop (some z_d))), Value.slice A_d n_d c_d, Value.slice B_d m_d d_d] 28)
        replace h_a := h_a.below bn
        replace h_b := h_b.below bn
        replace h_c := h_c.below bn
        replace h_ra := h_ra.below bn
        replace h_rb := h_rb.below bn
        replace h_rc := h_rc.below bn
        replace h_s := h_s.below bn
        replace h_rs := h_rs.below bn
        replace h_t := h_t.below bn
        replace h_rt := h_rt.below bn
        replace h_p := h_p.below bn
        replace h_rp := h_rp.below bn
        replace h_q := h_q.below bn
        replace h_rq := h_rq.below bn
        replace h_d := h_d.below bn
        replace bw := below_two bw bn
        clear bn
        go_wp2
        generalize w20.alloc (.cells #[Value.bool (sg (oTop (some z_d))), Value.slice A_d n_d c_d, Value.slice B_d m_d d_d] 28) = w21 at *
        obtain ⟨q_d, eg⟩ : ∃ g, g = w20.heap.size := ⟨_, rfl⟩
        rw [← eg] at h_rd ⊢
        clear eg
        have KK := Lib.hid ((keep_read h_a h_b).trans F13.out)
        have g1 := wrap_both e1
        have g2 := wrap_both e2
        have g3 := wrap_both e3
        generalize w21 = wS at *
        refine region_freeg 58 1 [112, 113, 114, 115, 116, 117, 118, 119, 120, 121, 122, 123, 124, 125, 126, 127, 128, 129, 130, 131, 132, 133, 134, 135, 136, 137, 138, 139, 140, 141, 142, 143, 144, 145, 146, 147, 148, 149, 150, 151, 152, 153, 154, 155, 156, 157, 158, 159, 160, 161, 162, 163, 164, 165, 166, 167, 168, 169] ?aF20 (fun wx => Below wS.heap.size wS wx) (fun k vv wx => match k with
            | 0 => vv = .int .i64 x
            | 1 => vv = .agg #[.bool (sg (oTop (some z_b))), .slice A_b n_b c_b, .slice B_b m_b d_b]
            | 2 => vv = .agg #[.bool (sg (oTop (some z_a))), .slice A_a n_a c_a, .slice B_a m_a d_a]
            | 3 => vv = .int .i64 y
            | 4 => vv = .int .i64 x
            | 5 => vv = .bool true
            | 6 => vv = .bool true
            | 7 => vv = .agg #[.bool (sg (oTop (some z_s))), .slice A_s n_s c_s, .slice B_s m_s d_s]
            | 8 => vv = .agg #[.bool (sg (oTop (some z_t))), .slice A_t n_t c_t, .slice B_t m_t d_t]
            | 9 => vv = .int .i64 x
            | 10 => vv = .int .i64 x
            | 11 => vv = .bool true
            | 12 => vv = .bool true
            | 13 => vv = .bool true
            | 14 => vv = .agg #[.bool (sg (oTop (some z_p))), .slice A_p n_p c_p, .slice B_p m_p d_p]
            | 15 => vv = .agg #[.bool (sg (oTop (some z_q))), .slice A_q n_q c_q, .slice B_q m_q d_q]
            | 16 => vv = .int .i64 v
            | 17 => vv = .int .i64 x
            | 18 => vv = .agg #[.bool (sg (oTop (some z_c))), .slice A_c n_c c_c, .slice B_c m_c d_c]
            | 19 => vv = .int .i64 u
            | 20 => vv = .int .i64 v
            | 21 => vv = .bool true
            | 22 => vv = .bool true
            | 23 => vv = .bool true
            | 24 => vv = .agg #[.bool (sg (oTop (some z_d))), .slice A_d n_d c_d, .slice B_d m_d d_d]
            | 25 => vv = .int .i64 x
            | 26 => vv = .int .i64 x
            | 27 => vv = .bool true
            | 28 => vv = .bool true
            | 29 => vv = .bool true
            | 30 => vv = .agg #[.bool (sg (oTop (some z_a))), .slice A_a n_a c_a, .slice B_a m_a d_a]
            | 31 => vv = .agg #[.bool (sg (oTop (some z_b))), .slice A_b n_b c_b, .slice B_b m_b d_b]
            | 32 => vv = .bool (x == 0)
            | 33 => vv = .int .i64 x
            | 34 => vv = .bool (x == 0)
            | 35 => vv = .bool true
            | 36 => vv = .bool true
            | 37 => vv = .bool true
            | 38 => vv = .int .i64 x
            | 39 => vv = .bool (x == 0)
            | 40 => vv = .agg #[.bool (sg (oTop (some z_a))), .slice A_a n_a c_a, .slice B_a m_a d_a]
            | 41 => vv = .agg #[.bool (sg (oTop (some z_b))), .slice A_b n_b c_b, .slice B_b m_b d_b]
            | 42 => vv = .bool (x == 0)
            | 43 => vv = .bool true
            | 44 => vv = .bool true
            | 45 => vv = .bool true
            | 46 => vv = .agg #[.bool (sg (oTop (some z_a))), .slice A_a n_a c_a, .slice B_a m_a d_a]
            | 47 => ∃ (e0 : Option Addr) (e1 : Nat) (e2 : Nat) (e3 : Option Addr) (e4 : Nat) (e5 : Nat), vv = .agg #[.bool (sg (oTop (some (-z_a)))), .slice e0 e1 e2, .slice e3 e4 e5] ∧ QT wx e0 e1 e2 e3 e4 e5 (some (-z_a))
            | 48 => vv = .agg #[.bool (sg (oTop (some z_b))), .slice A_b n_b c_b, .slice B_b m_b d_b]
            | 49 => ∃ (e0 : Option Addr) (e1 : Nat) (e2 : Nat) (e3 : Option Addr) (e4 : Nat) (e5 : Nat), vv = .agg #[.bool (sg (oTop (some (-z_b)))), .slice e0 e1 e2, .slice e3 e4 e5] ∧ QT wx e0 e1 e2 e3 e4 e5 (some (-z_b))
            | 50 => vv = .int .i64 y
            | 51 => vv = .int .i64 x
            | 52 => vv = .int .i64 y
            | 53 => vv = .bool true
            | 54 => vv = .bool true
            | 55 => vv = .bool true
            | 56 => vv = .bool true
            | _ => vv = .bool true)
          (fun k => false) (by kernel_rfl) ?haF20 rfl (by kernel_rfl) (by kernel_rfl) (fun _ _ _ _ _ h => h) ?hSb20 ?hPb20 ?hS20 ?hop20 ?hfin20
        case haF20 =>
          intro vals
          simp only [fillAll, List.getElem?_cons_zero, List.getElem?_cons_succ, Act.put, List.setIfInBounds_toArray, List.set_cons_zero, List.set_cons_succ]
          exact rfl
        case hSb20 => exact fun wx w2 hb hS => below_two hS hb
        case hPb20 =>
          intro k v wa wb hb h
          match k, h with
          | 0, h => exact h
          | 1, h => exact h
          | 2, h => exact h
          | 3, h => exact h
          | 4, h => exact h
          | 5, h => exact h
          | 6, h => exact h
          | 7, h => exact h
          | 8, h => exact h
          | 9, h => exact h
          | 10, h => exact h
          | 11, h => exact h
          | 12, h => exact h
          | 13, h => exact h
          | 14, h => exact h
          | 15, h => exact h
          | 16, h => exact h
          | 17, h => exact h
          | 18, h => exact h
          | 19, h => exact h
          | 20, h => exact h
          | 21, h => exact h
          | 22, h => exact h
          | 23, h => exact h
          | 24, h => exact h
          | 25, h => exact h
          | 26, h => exact h
          | 27, h => exact h
          | 28, h => exact h
          | 29, h => exact h
          | 30, h => exact h
          | 31, h => exact h
          | 32, h => exact h
          | 33, h => exact h
          | 34, h => exact h
          | 35, h => exact h
          | 36, h => exact h
          | 37, h => exact h
          | 38, h => exact h
          | 39, h => exact h
          | 40, h => exact h
          | 41, h => exact h
          | 42, h => exact h
          | 43, h => exact h
          | 44, h => exact h
          | 45, h => exact h
          | 46, h => exact h
          | 47, ⟨e0, e1, e2, e3, e4, e5, h1, g0⟩ => exact ⟨e0, e1, e2, e3, e4, e5, h1, g0.below hb⟩
          | 48, h => exact h
          | 49, ⟨e0, e1, e2, e3, e4, e5, h1, g0⟩ => exact ⟨e0, e1, e2, e3, e4, e5, h1, g0.below hb⟩
          | 50, h => exact h
          | 51, h => exact h
          | 52, h => exact h
          | 53, h => exact h
          | 54, h => exact h
          | 55, h => exact h
          | 56, h => exact h
          | _ + 57, h => exact h
        case hS20 => exact (Below.refl _ _).drew
        case hop20 =>
          refine .cons (k := 0) (.plain rfl ?_) (.cons (k := 1) (.plain rfl ?_) (.cons (k := 2) (.plain rfl ?_) (.cons (k := 3) (.plain rfl ?_) (.cons (k := 4) (.plain rfl ?_) (.cons (k := 5) (.plain rfl ?_) (.cons (k := 6) (.plain rfl ?_) (.cons (k := 7) (.yes (fun vals wr hS hd g b e => by cases e; exact hd 6 (by decide +kernel)) ?_) (.cons (k := 8) (.yes (fun vals wr hS hd g b e => by cases e; exact hd 6 (by decide +kernel)) ?_) (.cons (k := 9) (.yes (fun vals wr hS hd g b e => by cases e; exact hd 6 (by decide +kernel)) ?_) (.cons (k := 10) (.yes (fun vals wr hS hd g b e => by cases e; exact hd 6 (by decide +kernel)) ?_) (.cons (k := 11) (.yes (fun vals wr hS hd g b e => by cases e; exact hd 6 (by decide +kernel)) ?_) (.cons (k := 12) (.plain rfl ?_) (.cons (k := 13) (.plain rfl ?_) (.cons (k := 14) (.yes (fun vals wr hS hd g b e => by cases e; exact hd 13 (by decide +kernel)) ?_) (.cons (k := 15) (.yes (fun vals wr hS hd g b e => by cases e; exact hd 13 (by decide +kernel)) ?_) (.cons (k := 16) (.yes (fun vals wr hS hd g b e => by cases e; exact hd 13 (by decide +kernel)) ?_) (.cons (k := 17) (.yes (fun vals wr hS hd g b e => by cases e; exact hd 13 (by decide +kernel)) ?_) (.cons (k := 18) (.yes (fun vals wr hS hd g b e => by cases e; exact hd 13 (by decide +kernel)) ?_) (.cons (k := 19) (.yes (fun vals wr hS hd g b e => by cases e; exact hd 13 (by decide +kernel)) ?_) (.cons (k := 20) (.yes (fun vals wr hS hd g b e => by cases e; exact hd 13 (by decide +kernel)) ?_) (.cons (k := 21) (.yes (fun vals wr hS hd g b e => by cases e; exact hd 13 (by decide +kernel)) ?_) (.cons (k := 22) (.plain rfl ?_) (.cons (k := 23) (.plain rfl ?_) (.cons (k := 24) (.yes (fun vals wr hS hd g b e => by cases e; exact hd 23 (by decide +kernel)) ?_) (.cons (k := 25) (.yes (fun vals wr hS hd g b e => by cases e; exact hd 23 (by decide +kernel)) ?_) (.cons (k := 26) (.yes (fun vals wr hS hd g b e => by cases e; exact hd 23 (by decide +kernel)) ?_) (.cons (k := 27) (.yes (fun vals wr hS hd g b e => by cases e; exact hd 23 (by decide +kernel)) ?_) (.cons (k := 28) (.plain rfl ?_) (.cons (k := 29) (.plain rfl ?_) (.cons (k := 30) (.yes (fun vals wr hS hd g b e => by cases e; exact hd 29 (by decide +kernel)) ?_) (.cons (k := 31) (.yes (fun vals wr hS hd g b e => by cases e; exact hd 29 (by decide +kernel)) ?_) (.cons (k := 32) (.yes (fun vals wr hS hd g b e => by cases e; exact hd 29 (by decide +kernel)) ?_) (.cons (k := 33) (.yes (fun vals wr hS hd g b e => by cases e; exact hd 29 (by decide +kernel)) ?_) (.cons (k := 34) (.yes (fun vals wr hS hd g b e => by cases e; exact hd 29 (by decide +kernel)) ?_) (.cons (k := 35) (.yes (fun vals wr hS hd g b e => by cases e; exact hd 29 (by decide +kernel)) ?_) (.cons (k := 36) (.plain rfl ?_) (.cons (k := 37) (.plain rfl ?_) (.cons (k := 38) (.yes (fun vals wr hS hd g b e => by cases e; exact hd 37 (by decide +kernel)) ?_) (.cons (k := 39) (.yes (fun vals wr hS hd g b e => by cases e; exact hd 37 (by decide +kernel)) ?_) (.cons (k := 40) (.yes (fun vals wr hS hd g b e => by cases e; exact hd 37 (by decide +kernel)) ?_) (.cons (k := 41) (.yes (fun vals wr hS hd g b e => by cases e; exact hd 37 (by decide +kernel)) ?_) (.cons (k := 42) (.yes (fun vals wr hS hd g b e => by cases e; exact hd 37 (by decide +kernel)) ?_) (.cons (k := 43) (.yes (fun vals wr hS hd g b e => by cases e; exact hd 37 (by decide +kernel)) ?_) (.cons (k := 44) (.plain rfl ?_) (.cons (k := 45) (.plain rfl ?_) (.cons (k := 46) (.yes (fun vals wr hS hd g b e => by cases e; exact hd 45 (by decide +kernel)) ?_) (.cons (k := 47) (.yes (fun vals wr hS hd g b e => by cases e; exact hd 45 (by decide +kernel)) ?_) (.cons (k := 48) (.yes (fun vals wr hS hd g b e => by cases e; exact hd 45 (by decide +kernel)) ?_) (.cons (k := 49) (.yes (fun vals wr hS hd g b e => by cases e; exact hd 45 (by decide +kernel)) ?_) (.cons (k := 50) (.yes (fun vals wr hS hd g b e => by cases e; exact hd 45 (by decide +kernel)) ?_) (.cons (k := 51) (.yes (fun vals wr hS hd g b e => by cases e; exact hd 45 (by decide +kernel)) ?_) (.cons (k := 52) (.yes (fun vals wr hS hd g b e => by cases e; exact hd 45 (by decide +kernel)) ?_) (.cons (k := 53) (.yes (fun vals wr hS hd g b e => by cases e; exact hd 45 (by decide +kernel)) ?_) (.cons (k := 54) (.plain rfl ?_) (.cons (k := 55) (.plain rfl ?_) (.cons (k := 56) (.yes (fun vals wr hS hd g b e => by cases e; exact hd 55 (by decide +kernel)) ?_) (.cons (k := 57) (.plain rfl ?_) (.nil))))))))))))))))))))))))))))))))))))))))))))))))))))))))))
          all_goals intro vals wr hS hd KC hK
          all_goals (show Oper.wp _ _ _ _ _ _; dsimp only)
          · go_simp
            refine hK _ _ rfl (Below.refl _ _) (by first | rfl | simp) (fun h => by cases h)
          · have z0 := (h_rb.below hS).c0
            have z1 := (h_rb.below hS).c1
            have z2 := (h_rb.below hS).c2
            go_simp
            refine hK _ _ rfl (Below.refl _ _) (by first | rfl | simp) (fun h => by cases h)
          · have z0 := (h_ra.below hS).c0
            have z1 := (h_ra.below hS).c1
            have z2 := (h_ra.below hS).c2
            go_simp
            refine hK _ _ rfl (Below.refl _ _) (by first | rfl | simp) (fun h => by cases h)
          · have d1 : vals 1 = _ := hd 1 (by decide +kernel)
            have d2 : vals 2 = _ := hd 2 (by decide +kernel)
            rw [d1, d2]
            go_simp
            go_at_call 21
            with_reducible refine (rCmp_c (h_b.below hS) (h_a.below hS) (by decide) (by decide) y F6.out).mono ?_
            rintro e w2 ⟨rfl, bn_r⟩
            refine hK _ _ rfl bn_r rfl (fun h => by cases h)
          · have d3 : vals 3 = _ := hd 3 (by decide +kernel)
            rw [d3]
            go_simp
            refine hK _ _ rfl (Below.refl _ _) (by first | rfl | simp) (fun h => by cases h)
          · have d0 : vals 0 = _ := hd 0 (by decide +kernel)
            have d4 : vals 4 = _ := hd 4 (by decide +kernel)
            rw [d0, d4]
            go_simp
            refine hK _ _ rfl (Below.refl _ _) (by first | rfl | simp) (fun h => by cases h)
          · have d5 : vals 5 = _ := hd 5 (by decide +kernel)
            rw [d5]
            go_simp
            refine hK _ _ rfl (Below.refl _ _) (by first | rfl | simp) (fun h => by cases h)
          · have z0 := (h_rs.below hS).c0
            have z1 := (h_rs.below hS).c1
            have z2 := (h_rs.below hS).c2
            go_simp
            refine hK _ _ rfl (Below.refl _ _) (by first | rfl | simp) (fun h => by cases h)
          · have z0 := (h_rt.below hS).c0
            have z1 := (h_rt.below hS).c1
            have z2 := (h_rt.below hS).c2
            go_simp
            refine hK _ _ rfl (Below.refl _ _) (by first | rfl | simp) (fun h => by cases h)
          · have d7 : vals 7 = _ := hd 7 (by decide +kernel)
            have d8 : vals 8 = _ := hd 8 (by decide +kernel)
            rw [d7, d8]
            go_simp
            go_at_call 21
            with_reducible refine (rCmp_c (h_s.below hS) (h_t.below hS) (by decide) (by decide) x F7.out).mono ?_
            rintro e w2 ⟨rfl, bn_r⟩
            refine hK _ _ rfl bn_r rfl (fun h => by cases h)
          · go_simp
            refine hK _ _ rfl (Below.refl _ _) (by first | rfl | simp) (fun h => by cases h)
          · have d9 : vals 9 = _ := hd 9 (by decide +kernel)
            have d10 : vals 10 = _ := hd 10 (by decide +kernel)
            rw [d9, d10]
            go_simp
            refine hK _ _ rfl (Below.refl _ _) (by first | rfl | simp) (fun h => by cases h)
          · have d6 : vals 6 = _ := hd 6 (by decide +kernel)
            have d11 : vals 11 = _ := hd 11 (by decide +kernel)
            rw [d6, d11]
            go_simp
            refine hK _ _ rfl (Below.refl _ _) (by first | rfl | simp) (fun h => by cases h)
          · have d12 : vals 12 = _ := hd 12 (by decide +kernel)
            rw [d12]
            go_simp
            refine hK _ _ rfl (Below.refl _ _) (by first | rfl | simp) (fun h => by cases h)
          · have z0 := (h_rp.below hS).c0
            have z1 := (h_rp.below hS).c1
            have z2 := (h_rp.below hS).c2
            go_simp
            refine hK _ _ rfl (Below.refl _ _) (by first | rfl | simp) (fun h => by cases h)
          · have z0 := (h_rq.below hS).c0
            have z1 := (h_rq.below hS).c1
            have z2 := (h_rq.below hS).c2
            go_simp
            refine hK _ _ rfl (Below.refl _ _) (by first | rfl | simp) (fun h => by cases h)
          · have d14 : vals 14 = _ := hd 14 (by decide +kernel)
            have d15 : vals 15 = _ := hd 15 (by decide +kernel)
            rw [d14, d15]
            go_simp
            go_at_call 21
            with_reducible refine (rCmp_c (h_p.below hS) (h_q.below hS) (by decide) (by decide) v F9.out).mono ?_
            rintro e w2 ⟨rfl, bn_r⟩
            refine hK _ _ rfl bn_r rfl (fun h => by cases h)
          · go_simp
            refine hK _ _ rfl (Below.refl _ _) (by first | rfl | simp) (fun h => by cases h)
          · have z0 := (h_rc.below hS).c0
            have z1 := (h_rc.below hS).c1
            have z2 := (h_rc.below hS).c2
            go_simp
            refine hK _ _ rfl (Below.refl _ _) (by first | rfl | simp) (fun h => by cases h)
          · have d18 : vals 18 = _ := hd 18 (by decide +kernel)
            rw [d18]
            go_simp
            go_at_call 20
            with_reducible refine (rSign_c (h_c.below hS) (by decide) u F8.out).mono ?_
            rintro e w2 ⟨rfl, bn_r⟩
            refine hK _ _ rfl bn_r rfl (fun h => by cases h)
          · have d17 : vals 17 = _ := hd 17 (by decide +kernel)
            have d19 : vals 19 = _ := hd 19 (by decide +kernel)
            rw [d17, d19]
            go_simp
            refine hK _ _ rfl (Below.refl _ _) (by first | rfl | simp) (fun h => by cases h)
          · have d16 : vals 16 = _ := hd 16 (by decide +kernel)
            have d20 : vals 20 = _ := hd 20 (by decide +kernel)
            rw [d16, d20]
            go_simp
            refine hK _ _ rfl (Below.refl _ _) (by first | rfl | simp) (fun h => by cases h)
          · have d13 : vals 13 = _ := hd 13 (by decide +kernel)
            have d21 : vals 21 = _ := hd 21 (by decide +kernel)
            rw [d13, d21]
            go_simp
            refine hK _ _ rfl (Below.refl _ _) (by first | rfl | simp) (fun h => by cases h)
          · have d22 : vals 22 = _ := hd 22 (by decide +kernel)
            rw [d22]
            go_simp
            refine hK _ _ rfl (Below.refl _ _) (by first | rfl | simp) (fun h => by cases h)
          · have z0 := (h_rd.below hS).c0
            have z1 := (h_rd.below hS).c1
            have z2 := (h_rd.below hS).c2
            go_simp
            refine hK _ _ rfl (Below.refl _ _) (by first | rfl | simp) (fun h => by cases h)
          · have d24 : vals 24 = _ := hd 24 (by decide +kernel)
            rw [d24]
            go_simp
            go_at_call 20
            with_reducible refine (rSign_c (h_d.below hS) (by decide) x F10.out).mono ?_
            rintro e w2 ⟨rfl, bn_r⟩
            refine hK _ _ rfl bn_r rfl (fun h => by cases h)
          · go_simp
            refine hK _ _ rfl (Below.refl _ _) (by first | rfl | simp) (fun h => by cases h)
          · have d25 : vals 25 = _ := hd 25 (by decide +kernel)
            have d26 : vals 26 = _ := hd 26 (by decide +kernel)
            rw [d25, d26]
            go_simp
            refine hK _ _ rfl (Below.refl _ _) (by first | rfl | simp) (fun h => by cases h)
          · have d23 : vals 23 = _ := hd 23 (by decide +kernel)
            have d27 : vals 27 = _ := hd 27 (by decide +kernel)
            rw [d23, d27]
            go_simp
            refine hK _ _ rfl (Below.refl _ _) (by first | rfl | simp) (fun h => by cases h)
          · have d28 : vals 28 = _ := hd 28 (by decide +kernel)
            rw [d28]
            go_simp
            refine hK _ _ rfl (Below.refl _ _) (by first | rfl | simp) (fun h => by cases h)
          · have z0 := (h_ra.below hS).c0
            have z1 := (h_ra.below hS).c1
            have z2 := (h_ra.below hS).c2
            go_simp
            refine hK _ _ rfl (Below.refl _ _) (by first | rfl | simp) (fun h => by cases h)
          · have z0 := (h_rb.below hS).c0
            have z1 := (h_rb.below hS).c1
            have z2 := (h_rb.below hS).c2
            go_simp
            refine hK _ _ rfl (Below.refl _ _) (by first | rfl | simp) (fun h => by cases h)
          · have d30 : vals 30 = _ := hd 30 (by decide +kernel)
            have d31 : vals 31 = _ := hd 31 (by decide +kernel)
            rw [d30, d31]
            go_simp
            go_at_call 22
            with_reducible refine (rSame_c (h_a.below hS) (h_b.below hS) (by decide) (by decide) (x == 0) F12.out).mono ?_
            rintro e w2 ⟨rfl, bn_r⟩
            refine hK _ _ rfl bn_r rfl (fun h => by cases h)
          · go_simp
            refine hK _ _ rfl (Below.refl _ _) (by first | rfl | simp) (fun h => by cases h)
          · have d33 : vals 33 = _ := hd 33 (by decide +kernel)
            rw [d33]
            go_simp
            refine hK _ _ rfl (Below.refl _ _) (by first | rfl | simp) (fun h => by cases h)
          · have d32 : vals 32 = _ := hd 32 (by decide +kernel)
            have d34 : vals 34 = _ := hd 34 (by decide +kernel)
            rw [d32, d34]
            go_simp
            refine hK _ _ rfl (Below.refl _ _) (by first | rfl | simp) (fun h => by cases h)
          · have d29 : vals 29 = _ := hd 29 (by decide +kernel)
            have d35 : vals 35 = _ := hd 35 (by decide +kernel)
            rw [d29, d35]
            go_simp
            refine hK _ _ rfl (Below.refl _ _) (by first | rfl | simp) (fun h => by cases h)
          · have d36 : vals 36 = _ := hd 36 (by decide +kernel)
            rw [d36]
            go_simp
            refine hK _ _ rfl (Below.refl _ _) (by first | rfl | simp) (fun h => by cases h)
          · go_simp
            refine hK _ _ rfl (Below.refl _ _) (by first | rfl | simp) (fun h => by cases h)
          · have d38 : vals 38 = _ := hd 38 (by decide +kernel)
            rw [d38]
            go_simp
            refine hK _ _ rfl (Below.refl _ _) (by first | rfl | simp) (fun h => by cases h)
          · have z0 := (h_ra.below hS).c0
            have z1 := (h_ra.below hS).c1
            have z2 := (h_ra.below hS).c2
            go_simp
            refine hK _ _ rfl (Below.refl _ _) (by first | rfl | simp) (fun h => by cases h)
          · have z0 := (h_rb.below hS).c0
            have z1 := (h_rb.below hS).c1
            have z2 := (h_rb.below hS).c2
            go_simp
            refine hK _ _ rfl (Below.refl _ _) (by first | rfl | simp) (fun h => by cases h)
          · have d40 : vals 40 = _ := hd 40 (by decide +kernel)
            have d41 : vals 41 = _ := hd 41 (by decide +kernel)
            rw [d40, d41]
            go_simp
            go_at_call 13
            with_reducible refine (keepRat_c (h_a.below hS) (h_b.below hS) (by decide) (by decide) (x == 0) KK.out).mono ?_
            rintro e w2 ⟨rfl, bn_r⟩
            refine hK _ _ rfl bn_r rfl (fun h => by cases h)
          · have d39 : vals 39 = _ := hd 39 (by decide +kernel)
            have d42 : vals 42 = _ := hd 42 (by decide +kernel)
            rw [d39, d42]
            go_simp
            refine hK _ _ rfl (Below.refl _ _) (by first | rfl | simp) (fun h => by cases h)
          · have d37 : vals 37 = _ := hd 37 (by decide +kernel)
            have d43 : vals 43 = _ := hd 43 (by decide +kernel)
            rw [d37, d43]
            go_simp
            refine hK _ _ rfl (Below.refl _ _) (by first | rfl | simp) (fun h => by cases h)
          · have d44 : vals 44 = _ := hd 44 (by decide +kernel)
            rw [d44]
            go_simp
            refine hK _ _ rfl (Below.refl _ _) (by first | rfl | simp) (fun h => by cases h)
          · have z0 := (h_ra.below hS).c0
            have z1 := (h_ra.below hS).c1
            have z2 := (h_ra.below hS).c2
            go_simp
            refine hK _ _ rfl (Below.refl _ _) (by first | rfl | simp) (fun h => by cases h)
          · have d46 : vals 46 = _ := hd 46 (by decide +kernel)
            rw [d46]
            go_simp
            go_at_call 23
            with_reducible refine (rNeg_c (h_a.below hS) (by decide)).mono ?_
            rintro e w2 ⟨r0, r1, r2, r3, r4, r5, rfl, f0, bn_r⟩
            refine hK _ _ rfl bn_r ⟨_, _, _, _, _, _, rfl, f0⟩ (fun h => by cases h)
          · have z0 := (h_rb.below hS).c0
            have z1 := (h_rb.below hS).c1
            have z2 := (h_rb.below hS).c2
            go_simp
            refine hK _ _ rfl (Below.refl _ _) (by first | rfl | simp) (fun h => by cases h)
          · have d48 : vals 48 = _ := hd 48 (by decide +kernel)
            rw [d48]
            go_simp
            go_at_call 23
            with_reducible refine (rNeg_c (h_b.below hS) (by decide)).mono ?_
            rintro e w2 ⟨r0, r1, r2, r3, r4, r5, rfl, f0, bn_r⟩
            refine hK _ _ rfl bn_r ⟨_, _, _, _, _, _, rfl, f0⟩ (fun h => by cases h)
          · obtain ⟨A_47_0, n_47_1, n_47_2, A_47_3, n_47_4, n_47_5, d47, h_47_0⟩ := hd 47 (by decide +kernel)
            obtain ⟨A_49_0, n_49_1, n_49_2, A_49_3, n_49_4, n_49_5, d49, h_49_0⟩ := hd 49 (by decide +kernel)
            rw [d47, d49]
            go_simp
            go_at_call 21
            with_reducible refine (rCmp_c h_47_0 h_49_0 (by decide) (by decide) y F11.out).mono ?_
            rintro e w2 ⟨rfl, bn_r⟩
            refine hK _ _ rfl bn_r rfl (fun h => by cases h)
          · go_simp
            refine hK _ _ rfl (Below.refl _ _) (by first | rfl | simp) (fun h => by cases h)
          · have d51 : vals 51 = _ := hd 51 (by decide +kernel)
            rw [d51]
            go_simp
            refine hK _ _ rfl (Below.refl _ _) (by first | rfl | simp) (fun h => by cases h)
          · have d50 : vals 50 = _ := hd 50 (by decide +kernel)
            have d52 : vals 52 = _ := hd 52 (by decide +kernel)
            rw [d50, d52]
            go_simp
            refine hK _ _ rfl (Below.refl _ _) (by first | rfl | simp) (fun h => by cases h)
          · have d45 : vals 45 = _ := hd 45 (by decide +kernel)
            have d53 : vals 53 = _ := hd 53 (by decide +kernel)
            rw [d45, d53]
            go_simp
            refine hK _ _ rfl (Below.refl _ _) (by first | rfl | simp) (fun h => by cases h)
          · have d54 : vals 54 = _ := hd 54 (by decide +kernel)
            rw [d54]
            go_simp
            refine hK _ _ rfl (Below.refl _ _) (by first | rfl | simp) (fun h => by cases h)
          · go_simp
            go_at_call 8
            with_reducible refine (wakes_any _).mono ?_
            rintro e w2 ⟨rfl, bn_r⟩
            refine hK _ _ rfl bn_r rfl (fun h => by cases h)
          · have d55 : vals 55 = _ := hd 55 (by decide +kernel)
            have d56 : vals 56 = _ := hd 56 (by decide +kernel)
            rw [d55, d56]
            go_simp
            refine hK _ _ rfl (Below.refl _ _) (by first | rfl | simp) (fun h => by cases h)
        case hfin20 =>
          intro vals wr hS hP hne
          have ez_57 : vals 57 = _ := hP 57 (by decide)
          have HB := Lib.hid (below_two bw hS)
          try dsimp only
          rw [ez_57]
          refine wpAny_ready (rs := [58]) (by kernel_rfl) (by simp) (AllReady.cons rfl (fun KC hK => ?_) AllReady.nil)
          go_simp
          refine hK _ _ ?_
          clear hK KC
          refine wpAny_done (by kernel_rfl) ?_ _
          go_wp2
          go_ret
          exact ⟨rfl, HB.out⟩

set_option maxRecDepth 100000 in
theorem lifted (os : Os) (started : os.Started) (H : Type) (enc : TypeId × Value → H) :
    ReturnsInHanded {} Try.checked os 5 .any (Rows.ratOrderSpec.pre6 enc Try.prog Try.f5 Rows.ratOrderRow.domain false) (Rows.ratOrderSpec.post enc Try.prog Try.f5 false true false false) := by
  refine returnsInHanded_of_change (C := Try.checked) own started (by kernel_rfl) Try.func5
    (ChangeSpec.witness6 (enc := enc) (C := Try.checked) false ⟨#[], #[.agg #[.bool false, .slice none 0 0, .slice none 0 0], .agg #[.bool false, .slice none 0 0, .slice none 0 0], .agg #[.bool false, .slice none 0 0, .slice none 0 0]], []⟩ 8 (by kernel_rfl) (by kernel_rfl) (by kernel_rfl) (by kernel_rfl)) ?_
  intro W base args ds gs before hval0 hW hcnd _
  have hval : ∀ (j : Nat) t v, Try.f5.params[j]? = some t → args[j]? = some v → Value.okWide Try.prog W .any base t v := hval0
  have hW' := hW
  obtain ⟨p, q, hA0, hV, rfl, hfz, hnd⟩ := hW
  have hA : DataW.TrodAll enc Try.prog W 0 (fun _ => true) true Try.f5.params.toList args.toList ds p := hA0
  rw [Try.params5] at hA hval
  obtain ⟨v0, vs0, d0, ds0, p0, q0, hargs, rfl, rfl, h0, r0⟩ := trodAll_cons hA
  obtain ⟨v1, vs1, d1, ds1, p1, q1, rfl, rfl, rfl, h1, r1⟩ := trodAll_cons r0
  obtain ⟨v2, vs2, d2, ds2, p2, q2, rfl, rfl, rfl, h2, r2⟩ := trodAll_cons r1
  obtain ⟨rfl, rfl, rfl⟩ := trodAll_nil r2
  obtain rfl : args = #[v0, v1, v2] := by cases args; simp_all
  obtain ⟨rfl, rfl⟩ := trodVars_none hV
  obtain ⟨b0, a0, len0, cap0, z0, e0, lem0, dap0, y0, rfl, i0, hc0, hm0, k0, kc0, km0⟩ := open_rat (hval 0 28 v0 rfl rfl) h0
  obtain ⟨b1, a1, len1, cap1, z1, e1, lem1, dap1, y1, rfl, i1, hc1, hm1, k1, kc1, km1⟩ := open_rat (hval 1 28 v1 rfl rfl) h1
  obtain ⟨b2, a2, len2, cap2, z2, e2, lem2, dap2, y2, rfl, i2, hc2, hm2, k2, kc2, km2⟩ := open_rat (hval 2 28 v2 rfl rfl) h2
  clear hA0 hval0
  refine (walk b0 a0 len0 cap0 z0 e0 lem0 dap0 y0 b1 a1 len1 cap1 z1 e1 lem1 dap1 y1 b2 a2 len2 cap2 z2 e2 lem2 dap2 y2 W i0 hc0 hm0 k0 kc0 km0 i1 hc1 hm1 k1 kc1 km1 i2 hc2 hm2 k2 kc2 km2).mono fun e W' ⟨he, bel⟩ => ?_
  subst he
  exact ⟨_, rfl, _, _, _, [], _, [], hW', trodAll_mk1 (shut_bool Try.underlying4 _), (trodAll_cons_mk (Below.trod laidOut (by kernel_rfl) (of_decide_eq_true (by kernel_rfl)) h0 bel (places_lt h0)) (trodAll_cons_mk (Below.trod laidOut (by kernel_rfl) (of_decide_eq_true (by kernel_rfl)) h1 bel (places_lt h1)) (trodAll_cons_mk (Below.trod laidOut (by kernel_rfl) (of_decide_eq_true (by kernel_rfl)) h2 bel (places_lt h2)) trodAll_mk0))), rfl, bel.frame _, fun h => by cases h⟩

theorem over : Rows.ratOrderRow.holds Try.pinned (OpenSpec.ofChange Rows.ratOrderSpec) :=
  OpenClaim.holds_of_wide 5 Try.f5 rfl rfl rfl rfl rfl rfl rfl ⟨rfl, rfl, rfl, rfl, rfl⟩ rfl rfl rfl rfl rfl (by kernel_rfl) Try.func5 (by kernel_rfl)
    (of_decide_eq_true (by kernel_rfl)) (by unfold Func.isWrapper; first | (rw [if_pos (by decide +kernel)]; kernel_rfl) | (rw [if_neg (by decide +kernel)]; exact ⟨rfl, rfl⟩))
    (fun os started H enc _ => lifted os started H enc)

theorem proved : Rows.RatOrderSaid := over

end Go.Proofs.Ytohciicocaoagaa.lawRatOrder
