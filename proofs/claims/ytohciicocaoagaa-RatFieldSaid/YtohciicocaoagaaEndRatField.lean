/- Of any three rational numbers of few limbs: they are a field. No condition. -/
import Derived.Test.YtohciicocaoagaaM8
import Derived.ChangeMaps5
/- How an argument that is a rational number is opened: a struct of a struct of a sign and a list of limbs, and of a list of limbs. No condition. -/
namespace Go.Proofs.Ytohciicocaoagaa
open Go.ChangeShapes Go.WideShapes Go.ChangeAt Go.RowKit Limb
set_option linter.unusedVariables false

theorem cells_rat : Try.prog.cellsOf 28 = 3 := by kernel_rfl

theorem three_cells {cs : Array Value} {u v x : Value} (h : cs.toList = [u, v, x]) : cs = #[u, v, x] := by
  obtain ⟨l⟩ := cs
  have h2 : l = [u, v, x] := h
  rw [h2]

/-- A slice of limbs among the cells of a struct. -/
theorem slice_cell {H : Type} {enc : TypeId × Value → H} {W : World} {sp : Nat → Bool} {held : Bool} {m : Nat} {c : Value} {x : DataW H × List MemPlace}
    (h : DataW.trod enc Try.prog W 0 sp held m 23 [c] = some x) : ∃ (a : Option Addr) (n k : Nat) (zs : List Nat), c = .slice a n k ∧ IsN W a n zs ∧ n ≤ k ∧ k ≤ maxLen := by
  have h2 : DataW.Trod enc Try.prog W 0 sp held 23 c x.1 x.2 := by
    rcases DataW.trod_slice Try.underlying23 h with ⟨e, _⟩ | ⟨a, l, k, es, rs, m2, _, e, _⟩
    · simp at e; subst e; exact ⟨_, h⟩
    · simp at e; subst e; exact ⟨_, h⟩
  rcases DataW.trod_slice Try.underlying23 h with ⟨e, _⟩ | ⟨a, l, k, es, rs, m2, _, e, _⟩
  · simp at e; subst e
    obtain ⟨zs, hz, hc, hm, _⟩ := open_nat h2
    exact ⟨_, _, _, zs, rfl, hz, hc, hm⟩
  · simp at e; subst e
    obtain ⟨zs, hz, hc, hm, _⟩ := open_nat h2
    exact ⟨_, _, _, zs, rfl, hz, hc, hm⟩

set_option maxRecDepth 100000 in
theorem open_rat {H : Type} {enc : TypeId × Value → H} {W : World} {r : Reach} {b0 : Nat} {sp : Nat → Bool} {held : Bool} {v : Value} {d : DataW H} {p : List MemPlace}
    (hok : Value.okWide Try.prog W r b0 28 v) (h : DataW.Trod enc Try.prog W 0 sp held 28 v d p) :
    ∃ (s : Bool) (a : Option Addr) (n c : Nat) (xs : List Nat) (b : Option Addr) (m k : Nat) (ys : List Nat), v = .agg #[.bool s, .slice a n c, .slice b m k] ∧ IsN W a n xs ∧ n ≤ c ∧ c ≤ maxLen ∧ IsN W b m ys ∧ m ≤ k ∧ k ≤ maxLen := by
  obtain ⟨cs, rfl, hsz⟩ := okWide_struct Try.underlying28 hok
  rw [cells_rat] at hsz
  obtain ⟨fuel, hf⟩ := h
  obtain ⟨xs, m, rfl, hx, hlen, hxl, hel⟩ := DataW.trod_struct Try.underlying28 hf
  have h0 : DataW.trod enc Try.prog W 0 sp held m 25 (((Value.agg cs).cells.toList.drop 0).take (Try.prog.cellsOf 25)) = xs[0]? := hel 0 _ rfl
  have h1 : DataW.trod enc Try.prog W 0 sp held m 23 (((Value.agg cs).cells.toList.drop 2).take (Try.prog.cellsOf 23)) = xs[1]? := hel 1 _ rfl
  rw [cells_int] at h0
  rw [cells_nat] at h1
  have hxl2 : xs.length = 2 := by simpa using hxl
  rw [List.getElem?_eq_getElem (by omega)] at h0 h1
  have hcl : cs.toList.length = 3 := by simpa using hsz
  have hcc : (Value.agg cs).cells.toList = cs.toList := rfl
  rw [hcc] at h0 h1
  match hcs : cs.toList, hcl with
  | [c0, c1, c2], _ =>
    rw [hcs] at h0 h1
    obtain ⟨ys, m1, e0, hy, hylen, hyl, hyel⟩ := DataW.trod_struct Try.underlying25 h0
    have k0 : DataW.trod enc Try.prog W 0 sp held m1 4 ((([c0, c1] : List Value).drop 0).take (Try.prog.cellsOf 4)) = ys[0]? := hyel 0 _ rfl
    have k1 : DataW.trod enc Try.prog W 0 sp held m1 23 ((([c0, c1] : List Value).drop 1).take (Try.prog.cellsOf 23)) = ys[1]? := hyel 1 _ rfl
    rw [cells_bool] at k0
    rw [cells_nat] at k1
    have hyl2 : ys.length = 2 := by simpa using hyl
    rw [List.getElem?_eq_getElem (by omega)] at k0 k1
    obtain ⟨b, hb, _⟩ := DataW.trod_bool Try.underlying4 k0
    simp at hb
    subst hb
    obtain ⟨a, n, c, zs, rfl, hz, hc, hm⟩ := slice_cell (c := c1) k1
    obtain ⟨a2, n2, k2, zs2, rfl, hz2, hc2, hm2⟩ := slice_cell (c := c2) h1
    exact ⟨b, _, _, _, zs, _, _, _, zs2, by rw [three_cells hcs], hz, hc, hm, hz2, hc2, hm2⟩

end Go.Proofs.Ytohciicocaoagaa

/- Of any three rational numbers of few limbs: they are a field. No condition. -/
namespace Go.Proofs.Ytohciicocaoagaa.lawRatField
open Go.ChangeShapes Go.WideShapes Go.ChangeAt Go.RowKit Limb
set_option linter.unusedVariables false

set_option maxHeartbeats 400000000 in
set_option maxRecDepth 100000 in
theorem walk (g_a : Bool) (A_a : Option Addr) (n_a c_a : Nat) (xs_a : List Nat) (B_a : Option Addr) (m_a d_a : Nat) (ys_a : List Nat) (g_b : Bool) (A_b : Option Addr) (n_b c_b : Nat) (xs_b : List Nat) (B_b : Option Addr) (m_b d_b : Nat) (ys_b : List Nat) (g_c : Bool) (A_c : Option Addr) (n_c c_c : Nat) (xs_c : List Nat) (B_c : Option Addr) (m_c d_c : Nat) (ys_c : List Nat) (w : World) (i_a : IsN w A_a n_a xs_a) (hc_a : n_a ≤ c_a) (hm_a : c_a ≤ maxLen) (j_a : IsN w B_a m_a ys_a) (kc_a : m_a ≤ d_a) (km_a : d_a ≤ maxLen) (i_b : IsN w A_b n_b xs_b) (hc_b : n_b ≤ c_b) (hm_b : c_b ≤ maxLen) (j_b : IsN w B_b m_b ys_b) (kc_b : m_b ≤ d_b) (km_b : d_b ≤ maxLen) (i_c : IsN w A_c n_c xs_c) (hc_c : n_c ≤ c_c) (hm_c : c_c ≤ maxLen) (j_c : IsN w B_c m_c ys_c) (kc_c : m_c ≤ d_c) (km_c : d_c ≤ maxLen) :
    Calls Try.prog 4 #[.agg #[.bool g_a, .slice A_a n_a c_a, .slice B_a m_a d_a], .agg #[.bool g_b, .slice A_b n_b c_b, .slice B_b m_b d_b], .agg #[.bool g_c, .slice A_c n_c c_c, .slice B_c m_c d_c]] w fun e w' => e = .returned (.bool true) ∧ Below w.heap.size w w' := by
  have KL_a : max n_a m_a ≤ 9223372036854775807 := by
    have e : maxLen = 9223372036854775807 := by decide
    omega
  have h_a := QQ.of (s := g_a) i_a hc_a j_a kc_a (Nat.le_max_left n_a m_a) (Nat.le_max_right n_a m_a)
  generalize readQ g_a xs_a ys_a = o_a at h_a
  have KL_b : max n_b m_b ≤ 9223372036854775807 := by
    have e : maxLen = 9223372036854775807 := by decide
    omega
  have h_b := QQ.of (s := g_b) i_b hc_b j_b kc_b (Nat.le_max_left n_b m_b) (Nat.le_max_right n_b m_b)
  generalize readQ g_b xs_b ys_b = o_b at h_b
  have KL_c : max n_c m_c ≤ 9223372036854775807 := by
    have e : maxLen = 9223372036854775807 := by decide
    omega
  have h_c := QQ.of (s := g_c) i_c hc_c j_c kc_c (Nat.le_max_left n_c m_c) (Nat.le_max_right n_c m_c)
  generalize readQ g_c xs_c ys_c = o_c at h_c
  have bw := bel_refl w
  have h_ra := row3_new w 28 (.bool g_a) (.slice A_a n_a c_a) (.slice B_a m_a d_a)
  have bn := below_new w (.cells #[Value.bool g_a, Value.slice A_a n_a c_a, Value.slice B_a m_a d_a] 28)
  replace h_a := h_a.below bn
  replace h_b := h_b.below bn
  replace h_c := h_c.below bn
  replace bw := below_two bw bn
  clear bn
  have h_rb := row3_new (w.alloc (.cells #[Value.bool g_a, Value.slice A_a n_a c_a, Value.slice B_a m_a d_a] 28)) 28 (.bool g_b) (.slice A_b n_b c_b) (.slice B_b m_b d_b)
  have bn := below_new (w.alloc (.cells #[Value.bool g_a, Value.slice A_a n_a c_a, Value.slice B_a m_a d_a] 28)) (.cells #[Value.bool g_b, Value.slice A_b n_b c_b, Value.slice B_b m_b d_b] 28)
  replace h_a := h_a.below bn
  replace h_b := h_b.below bn
  replace h_c := h_c.below bn
  replace h_ra := h_ra.below bn
  replace bw := below_two bw bn
  clear bn
  have h_rc := row3_new ((w.alloc (.cells #[Value.bool g_a, Value.slice A_a n_a c_a, Value.slice B_a m_a d_a] 28)).alloc (.cells #[Value.bool g_b, Value.slice A_b n_b c_b, Value.slice B_b m_b d_b] 28)) 28 (.bool g_c) (.slice A_c n_c c_c) (.slice B_c m_c d_c)
  have bn := below_new ((w.alloc (.cells #[Value.bool g_a, Value.slice A_a n_a c_a, Value.slice B_a m_a d_a] 28)).alloc (.cells #[Value.bool g_b, Value.slice A_b n_b c_b, Value.slice B_b m_b d_b] 28)) (.cells #[Value.bool g_c, Value.slice A_c n_c c_c, Value.slice B_c m_c d_c] 28)
  replace h_a := h_a.below bn
  replace h_b := h_b.below bn
  replace h_c := h_c.below bn
  replace h_ra := h_ra.below bn
  replace h_rb := h_rb.below bn
  replace bw := below_two bw bn
  clear bn
  simp only [World.size_alloc] at h_rb h_rc
  go_enter Try.func4, Try.ntmps4
  go_wp2_with fail
  generalize ((w.alloc (.cells #[Value.bool g_a, Value.slice A_a n_a c_a, Value.slice B_a m_a d_a] 28)).alloc (.cells #[Value.bool g_b, Value.slice A_b n_b c_b, Value.slice B_b m_b d_b] 28)).alloc (.cells #[Value.bool g_c, Value.slice A_c n_c c_c, Value.slice B_c m_c d_c] 28) = wP at *
  obtain ⟨q_c, eg⟩ : ∃ g, g = w.heap.size + 1 + 1 := ⟨_, rfl⟩
  rw [← eg] at h_rc ⊢
  clear eg
  obtain ⟨q_b, eg⟩ : ∃ g, g = w.heap.size + 1 := ⟨_, rfl⟩
  rw [← eg] at h_rb ⊢
  clear eg
  obtain ⟨q_a, eg⟩ : ∃ g, g = w.heap.size := ⟨_, rfl⟩
  rw [← eg] at h_ra ⊢
  clear eg
  cases o_a with
  | none =>
    refine (refGood_c h_a KL_a false rfl).mono ?_
    rintro e w1 ⟨rfl, bn⟩
    replace h_a := h_a.below bn
    replace h_b := h_b.below bn
    replace h_c := h_c.below bn
    replace h_ra := h_ra.below bn
    replace h_rb := h_rb.below bn
    replace h_rc := h_rc.below bn
    replace bw := below_two bw bn
    clear bn
    go_wp2_with fail
    refine (wakes_any _).mono ?_
    rintro e w2 ⟨rfl, bn⟩
    replace h_a := h_a.below bn
    replace h_b := h_b.below bn
    replace h_c := h_c.below bn
    replace h_ra := h_ra.below bn
    replace h_rb := h_rb.below bn
    replace h_rc := h_rc.below bn
    replace bw := below_two bw bn
    clear bn
    go_wp2
    go_ret
    exact ⟨rfl, bw⟩
  | some z_a =>
    refine (refGood_c h_a KL_a true rfl).mono ?_
    rintro e w3 ⟨rfl, bn⟩
    replace h_a := h_a.below bn
    replace h_b := h_b.below bn
    replace h_c := h_c.below bn
    replace h_ra := h_ra.below bn
    replace h_rb := h_rb.below bn
    replace h_rc := h_rc.below bn
    replace bw := below_two bw bn
    clear bn
    have c_b0 := h_rb.c0
    have c_b1 := h_rb.c1
    have c_b2 := h_rb.c2
    go_wp2_with fail
    clear c_b0 c_b1 c_b2
    cases o_b with
    | none =>
      refine (refGood_c h_b KL_b false rfl).mono ?_
      rintro e w4 ⟨rfl, bn⟩
      replace h_a := h_a.below bn
      replace h_b := h_b.below bn
      replace h_c := h_c.below bn
      replace h_ra := h_ra.below bn
      replace h_rb := h_rb.below bn
      replace h_rc := h_rc.below bn
      replace bw := below_two bw bn
      clear bn
      go_wp2_with fail
      refine (wakes_any _).mono ?_
      rintro e w5 ⟨rfl, bn⟩
      replace h_a := h_a.below bn
      replace h_b := h_b.below bn
      replace h_c := h_c.below bn
      replace h_ra := h_ra.below bn
      replace h_rb := h_rb.below bn
      replace h_rc := h_rc.below bn
      replace bw := below_two bw bn
      clear bn
      go_wp2
      go_ret
      exact ⟨rfl, bw⟩
    | some z_b =>
      refine (refGood_c h_b KL_b true rfl).mono ?_
      rintro e w6 ⟨rfl, bn⟩
      replace h_a := h_a.below bn
      replace h_b := h_b.below bn
      replace h_c := h_c.below bn
      replace h_ra := h_ra.below bn
      replace h_rb := h_rb.below bn
      replace h_rc := h_rc.below bn
      replace bw := below_two bw bn
      clear bn
      have c_c0 := h_rc.c0
      have c_c1 := h_rc.c1
      have c_c2 := h_rc.c2
      go_wp2_with fail
      clear c_c0 c_c1 c_c2
      cases o_c with
      | none =>
        refine (refGood_c h_c KL_c false rfl).mono ?_
        rintro e w7 ⟨rfl, bn⟩
        replace h_a := h_a.below bn
        replace h_b := h_b.below bn
        replace h_c := h_c.below bn
        replace h_ra := h_ra.below bn
        replace h_rb := h_rb.below bn
        replace h_rc := h_rc.below bn
        replace bw := below_two bw bn
        clear bn
        go_wp2_with fail
        refine (wakes_any _).mono ?_
        rintro e w8 ⟨rfl, bn⟩
        replace h_a := h_a.below bn
        replace h_b := h_b.below bn
        replace h_c := h_c.below bn
        replace h_ra := h_ra.below bn
        replace h_rb := h_rb.below bn
        replace h_rc := h_rc.below bn
        replace bw := below_two bw bn
        clear bn
        go_wp2
        go_ret
        exact ⟨rfl, bw⟩
      | some z_c =>
        refine (refGood_c h_c KL_c true rfl).mono ?_
        rintro e w9 ⟨rfl, bn⟩
        replace h_a := h_a.below bn
        replace h_b := h_b.below bn
        replace h_c := h_c.below bn
        replace h_ra := h_ra.below bn
        replace h_rb := h_rb.below bn
        replace h_rc := h_rc.below bn
        replace bw := below_two bw bn
        clear bn
        obtain ⟨t1, t2, t3, t4, L1_a, L2_a, D_a⟩ := qq_told h_a
        clear i_a j_a
        subst t1
        subst t2
        subst t3
        replace h_a := t4
        clear t4
        obtain ⟨t1, t2, t3, t4, L1_b, L2_b, D_b⟩ := qq_told h_b
        clear i_b j_b
        subst t1
        subst t2
        subst t3
        replace h_b := t4
        clear t4
        obtain ⟨t1, t2, t3, t4, L1_c, L2_c, D_c⟩ := qq_told h_c
        clear i_c j_c
        subst t1
        subst t2
        subst t3
        replace h_c := t4
        clear t4
        by_cases hT : n_a + n_b + n_c + m_a + m_b + m_c ≤ 40
        case neg =>
          have hsum : (40 : Int) < (n_a : Int) + (n_b : Int) + (n_c : Int) + (m_a : Int) + (m_b : Int) + (m_c : Int) := by omega
          clear hT
          have c_a1 := h_ra.c1
          have c_a2 := h_ra.c2
          have c_b1 := h_rb.c1
          have c_b2 := h_rb.c2
          have c_c1 := h_rc.c1
          have c_c2 := h_rc.c2
          go_wp2_with fail
          clear c_a1 c_a2 c_b1 c_b2 c_c1 c_c2
          refine (wakes_any _).mono ?_
          rintro e w10 ⟨rfl, bn⟩
          replace h_a := h_a.below bn
          replace h_b := h_b.below bn
          replace h_c := h_c.below bn
          replace h_ra := h_ra.below bn
          replace h_rb := h_rb.below bn
          replace h_rc := h_rc.below bn
          replace bw := below_two bw bn
          clear bn
          go_wp2
          go_ret
          exact ⟨rfl, bw⟩
        have hsum : (n_a : Int) + (n_b : Int) + (n_c : Int) + (m_a : Int) + (m_b : Int) + (m_c : Int) ≤ (40 : Int) := by omega
        obtain ⟨z_s, z_u, z_v, z_p, z_x, z_y, z_z, F0, F1, F2, F3, F4, F5, F6, F7, F8, F9, F10, F11, F12, F13⟩ := field_facts D_a D_b D_c hT
        have F0 := Lib.hid F0
        have F1 := Lib.hid F1
        have F2 := Lib.hid F2
        have F3 := Lib.hid F3
        have F4 := Lib.hid F4
        have F5 := Lib.hid F5
        have F6 := Lib.hid F6
        have F7 := Lib.hid F7
        have F8 := Lib.hid F8
        have F9 := Lib.hid F9
        have F10 := Lib.hid F10
        have F11 := Lib.hid F11
        have F12 := Lib.hid F12
        have F13 := Lib.hid F13
        have c_a0 := h_ra.c0
        have c_a1 := h_ra.c1
        have c_a2 := h_ra.c2
        have c_b0 := h_rb.c0
        have c_b1 := h_rb.c1
        have c_b2 := h_rb.c2
        have c_c0 := h_rc.c0
        have c_c1 := h_rc.c1
        have c_c2 := h_rc.c2
        go_wp2_with fail
        clear c_a0 c_a1 c_a2 c_b0 c_b1 c_b2 c_c0 c_c1 c_c2
        refine (rAdd_c h_a h_b (by decide) (by decide) _ _ F0.out).mono ?_
        rintro e w11 ⟨A_s, n_s, c_s, B_s, m_s, d_s, rfl, h_s, bn⟩
        replace h_a := h_a.below bn
        replace h_b := h_b.below bn
        replace h_c := h_c.below bn
        replace h_ra := h_ra.below bn
        replace h_rb := h_rb.below bn
        replace h_rc := h_rc.below bn
        replace bw := below_two bw bn
        clear bn
        have h_rs := row3_new w11 28 (.bool (sg (oTop (some z_s)))) (.slice A_s n_s c_s) (.slice B_s m_s d_s)
        have bn := below_new w11 (.cells #[Value.bool (sg (oTop (some z_s))), Value.slice A_s n_s c_s, Value.slice B_s m_s d_s] 28)
        replace h_a := h_a.below bn
        replace h_b := h_b.below bn
        replace h_c := h_c.below bn
        replace h_ra := h_ra.below bn
        replace h_rb := h_rb.below bn
        replace h_rc := h_rc.below bn
        replace h_s := h_s.below bn
        replace bw := below_two bw bn
        clear bn
        have c_b0 := h_rb.c0
        have c_b1 := h_rb.c1
        have c_b2 := h_rb.c2
        have c_a0 := h_ra.c0
        have c_a1 := h_ra.c1
        have c_a2 := h_ra.c2
        go_wp2_with fail
        clear c_b0 c_b1 c_b2 c_a0 c_a1 c_a2
        generalize w11.alloc (.cells #[Value.bool (sg (oTop (some z_s))), Value.slice A_s n_s c_s, Value.slice B_s m_s d_s] 28) = w12 at *
        obtain ⟨q_s, eg⟩ : ∃ g, g = w11.heap.size := ⟨_, rfl⟩
        rw [← eg] at h_rs ⊢
        clear eg
        refine (rAdd_c h_b h_a (by decide) (by decide) _ _ F1.out).mono ?_
        rintro e w13 ⟨A_t, n_t, c_t, B_t, m_t, d_t, rfl, h_t, bn⟩
        replace h_a := h_a.below bn
        replace h_b := h_b.below bn
        replace h_c := h_c.below bn
        replace h_ra := h_ra.below bn
        replace h_rb := h_rb.below bn
        replace h_rc := h_rc.below bn
        replace h_s := h_s.below bn
        replace h_rs := h_rs.below bn
        replace bw := below_two bw bn
        clear bn
        have h_rt := row3_new w13 28 (.bool (sg (oTop (some z_s)))) (.slice A_t n_t c_t) (.slice B_t m_t d_t)
        have bn := below_new w13 (.cells #[Value.bool (sg (oTop (some z_s))), Value.slice A_t n_t c_t, Value.slice B_t m_t d_t] 28)
        replace h_a := h_a.below bn
        replace h_b := h_b.below bn
        replace h_c := h_c.below bn
        replace h_ra := h_ra.below bn
        replace h_rb := h_rb.below bn
        replace h_rc := h_rc.below bn
        replace h_s := h_s.below bn
        replace h_rs := h_rs.below bn
        replace h_t := h_t.below bn
        replace bw := below_two bw bn
        clear bn
        have c_s0 := h_rs.c0
        have c_s1 := h_rs.c1
        have c_s2 := h_rs.c2
        have c_c0 := h_rc.c0
        have c_c1 := h_rc.c1
        have c_c2 := h_rc.c2
        go_wp2_with fail
        clear c_s0 c_s1 c_s2 c_c0 c_c1 c_c2
        generalize w13.alloc (.cells #[Value.bool (sg (oTop (some z_s))), Value.slice A_t n_t c_t, Value.slice B_t m_t d_t] 28) = w14 at *
        obtain ⟨q_t, eg⟩ : ∃ g, g = w13.heap.size := ⟨_, rfl⟩
        rw [← eg] at h_rt ⊢
        clear eg
        refine (rAdd_c h_s h_c (by decide) (by decide) _ _ F2.out).mono ?_
        rintro e w15 ⟨A_u, n_u, c_u, B_u, m_u, d_u, rfl, h_u, bn⟩
        replace h_a := h_a.below bn
        replace h_b := h_b.below bn
        replace h_c := h_c.below bn
        replace h_ra := h_ra.below bn
        replace h_rb := h_rb.below bn
        replace h_rc := h_rc.below bn
        replace h_s := h_s.below bn
        replace h_rs := h_rs.below bn
        replace h_t := h_t.below bn
        replace h_rt := h_rt.below bn
        replace bw := below_two bw bn
        clear bn
        have h_ru := row3_new w15 28 (.bool (sg (oTop (some z_u)))) (.slice A_u n_u c_u) (.slice B_u m_u d_u)
        have bn := below_new w15 (.cells #[Value.bool (sg (oTop (some z_u))), Value.slice A_u n_u c_u, Value.slice B_u m_u d_u] 28)
        replace h_a := h_a.below bn
        replace h_b := h_b.below bn
        replace h_c := h_c.below bn
        replace h_ra := h_ra.below bn
        replace h_rb := h_rb.below bn
        replace h_rc := h_rc.below bn
        replace h_s := h_s.below bn
        replace h_rs := h_rs.below bn
        replace h_t := h_t.below bn
        replace h_rt := h_rt.below bn
        replace h_u := h_u.below bn
        replace bw := below_two bw bn
        clear bn
        have c_b0 := h_rb.c0
        have c_b1 := h_rb.c1
        have c_b2 := h_rb.c2
        have c_c0 := h_rc.c0
        have c_c1 := h_rc.c1
        have c_c2 := h_rc.c2
        go_wp2_with fail
        clear c_b0 c_b1 c_b2 c_c0 c_c1 c_c2
        generalize w15.alloc (.cells #[Value.bool (sg (oTop (some z_u))), Value.slice A_u n_u c_u, Value.slice B_u m_u d_u] 28) = w16 at *
        obtain ⟨q_u, eg⟩ : ∃ g, g = w15.heap.size := ⟨_, rfl⟩
        rw [← eg] at h_ru ⊢
        clear eg
        refine (rAdd_c h_b h_c (by decide) (by decide) _ _ F3.out).mono ?_
        rintro e w17 ⟨A_v, n_v, c_v, B_v, m_v, d_v, rfl, h_v, bn⟩
        replace h_a := h_a.below bn
        replace h_b := h_b.below bn
        replace h_c := h_c.below bn
        replace h_ra := h_ra.below bn
        replace h_rb := h_rb.below bn
        replace h_rc := h_rc.below bn
        replace h_s := h_s.below bn
        replace h_rs := h_rs.below bn
        replace h_t := h_t.below bn
        replace h_rt := h_rt.below bn
        replace h_u := h_u.below bn
        replace h_ru := h_ru.below bn
        replace bw := below_two bw bn
        clear bn
        have h_rv := row3_new w17 28 (.bool (sg (oTop (some z_v)))) (.slice A_v n_v c_v) (.slice B_v m_v d_v)
        have bn := below_new w17 (.cells #[Value.bool (sg (oTop (some z_v))), Value.slice A_v n_v c_v, Value.slice B_v m_v d_v] 28)
        replace h_a := h_a.below bn
        replace h_b := h_b.below bn
        replace h_c := h_c.below bn
        replace h_ra := h_ra.below bn
        replace h_rb := h_rb.below bn
        replace h_rc := h_rc.below bn
        replace h_s := h_s.below bn
        replace h_rs := h_rs.below bn
        replace h_t := h_t.below bn
        replace h_rt := h_rt.below bn
        replace h_u := h_u.below bn
        replace h_ru := h_ru.below bn
        replace h_v := h_v.below bn
        replace bw := below_two bw bn
        clear bn
        have c_a0 := h_ra.c0
        have c_a1 := h_ra.c1
        have c_a2 := h_ra.c2
        have c_v0 := h_rv.c0
        have c_v1 := h_rv.c1
        have c_v2 := h_rv.c2
        go_wp2_with fail
        clear c_a0 c_a1 c_a2 c_v0 c_v1 c_v2
        generalize w17.alloc (.cells #[Value.bool (sg (oTop (some z_v))), Value.slice A_v n_v c_v, Value.slice B_v m_v d_v] 28) = w18 at *
        obtain ⟨q_v, eg⟩ : ∃ g, g = w17.heap.size := ⟨_, rfl⟩
        rw [← eg] at h_rv ⊢
        clear eg
        refine (rAdd_c h_a h_v (by decide) (by decide) _ _ F4.out).mono ?_
        rintro e w19 ⟨A_w0, n_w0, c_w0, B_w0, m_w0, d_w0, rfl, h_w0, bn⟩
        replace h_a := h_a.below bn
        replace h_b := h_b.below bn
        replace h_c := h_c.below bn
        replace h_ra := h_ra.below bn
        replace h_rb := h_rb.below bn
        replace h_rc := h_rc.below bn
        replace h_s := h_s.below bn
        replace h_rs := h_rs.below bn
        replace h_t := h_t.below bn
        replace h_rt := h_rt.below bn
        replace h_u := h_u.below bn
        replace h_ru := h_ru.below bn
        replace h_v := h_v.below bn
        replace h_rv := h_rv.below bn
        replace bw := below_two bw bn
        clear bn
        have h_rw0 := row3_new w19 28 (.bool (sg (oTop (some z_u)))) (.slice A_w0 n_w0 c_w0) (.slice B_w0 m_w0 d_w0)
        have bn := below_new w19 (.cells #[Value.bool (sg (oTop (some z_u))), Value.slice A_w0 n_w0 c_w0, Value.slice B_w0 m_w0 d_w0] 28)
        replace h_a := h_a.below bn
        replace h_b := h_b.below bn
        replace h_c := h_c.below bn
        replace h_ra := h_ra.below bn
        replace h_rb := h_rb.below bn
        replace h_rc := h_rc.below bn
        replace h_s := h_s.below bn
        replace h_rs := h_rs.below bn
        replace h_t := h_t.below bn
        replace h_rt := h_rt.below bn
        replace h_u := h_u.below bn
        replace h_ru := h_ru.below bn
        replace h_v := h_v.below bn
        replace h_rv := h_rv.below bn
        replace h_w0 := h_w0.below bn
        replace bw := below_two bw bn
        clear bn
        have c_a0 := h_ra.c0
        have c_a1 := h_ra.c1
        have c_a2 := h_ra.c2
        have c_b0 := h_rb.c0
        have c_b1 := h_rb.c1
        have c_b2 := h_rb.c2
        go_wp2_with fail
        clear c_a0 c_a1 c_a2 c_b0 c_b1 c_b2
        generalize w19.alloc (.cells #[Value.bool (sg (oTop (some z_u))), Value.slice A_w0 n_w0 c_w0, Value.slice B_w0 m_w0 d_w0] 28) = w20 at *
        obtain ⟨q_w0, eg⟩ : ∃ g, g = w19.heap.size := ⟨_, rfl⟩
        rw [← eg] at h_rw0 ⊢
        clear eg
        refine (rMul_c h_a h_b (by decide) (by decide) _ _ F5.out).mono ?_
        rintro e w21 ⟨A_p, n_p, c_p, B_p, m_p, d_p, rfl, h_p, bn⟩
        replace h_a := h_a.below bn
        replace h_b := h_b.below bn
        replace h_c := h_c.below bn
        replace h_ra := h_ra.below bn
        replace h_rb := h_rb.below bn
        replace h_rc := h_rc.below bn
        replace h_s := h_s.below bn
        replace h_rs := h_rs.below bn
        replace h_t := h_t.below bn
        replace h_rt := h_rt.below bn
        replace h_u := h_u.below bn
        replace h_ru := h_ru.below bn
        replace h_v := h_v.below bn
        replace h_rv := h_rv.below bn
        replace h_w0 := h_w0.below bn
        replace h_rw0 := h_rw0.below bn
        replace bw := below_two bw bn
        clear bn
        have h_rp := row3_new w21 28 (.bool (sg (oTop (some z_p)))) (.slice A_p n_p c_p) (.slice B_p m_p d_p)
        have bn := below_new w21 (.cells #[Value.bool (sg (oTop (some z_p))), Value.slice A_p n_p c_p, Value.slice B_p m_p d_p] 28)
        replace h_a := h_a.below bn
        replace h_b := h_b.below bn
        replace h_c := h_c.below bn
        replace h_ra := h_ra.below bn
        replace h_rb := h_rb.below bn
        replace h_rc := h_rc.below bn
        replace h_s := h_s.below bn
        replace h_rs := h_rs.below bn
        replace h_t := h_t.below bn
        replace h_rt := h_rt.below bn
        replace h_u := h_u.below bn
        replace h_ru := h_ru.below bn
        replace h_v := h_v.below bn
        replace h_rv := h_rv.below bn
        replace h_w0 := h_w0.below bn
        replace h_rw0 := h_rw0.below bn
        replace h_p := h_p.below bn
        replace bw := below_two bw bn
        clear bn
        have c_b0 := h_rb.c0
        have c_b1 := h_rb.c1
        have c_b2 := h_rb.c2
        have c_a0 := h_ra.c0
        have c_a1 := h_ra.c1
        have c_a2 := h_ra.c2
        go_wp2_with fail
        clear c_b0 c_b1 c_b2 c_a0 c_a1 c_a2
        generalize w21.alloc (.cells #[Value.bool (sg (oTop (some z_p))), Value.slice A_p n_p c_p, Value.slice B_p m_p d_p] 28) = w22 at *
        obtain ⟨q_p, eg⟩ : ∃ g, g = w21.heap.size := ⟨_, rfl⟩
        rw [← eg] at h_rp ⊢
        clear eg
        refine (rMul_c h_b h_a (by decide) (by decide) _ _ F6.out).mono ?_
        rintro e w23 ⟨A_q, n_q, c_q, B_q, m_q, d_q, rfl, h_q, bn⟩
        replace h_a := h_a.below bn
        replace h_b := h_b.below bn
        replace h_c := h_c.below bn
        replace h_ra := h_ra.below bn
        replace h_rb := h_rb.below bn
        replace h_rc := h_rc.below bn
        replace h_s := h_s.below bn
        replace h_rs := h_rs.below bn
        replace h_t := h_t.below bn
        replace h_rt := h_rt.below bn
        replace h_u := h_u.below bn
        replace h_ru := h_ru.below bn
        replace h_v := h_v.below bn
        replace h_rv := h_rv.below bn
        replace h_w0 := h_w0.below bn
        replace h_rw0 := h_rw0.below bn
        replace h_p := h_p.below bn
        replace h_rp := h_rp.below bn
        replace bw := below_two bw bn
        clear bn
        have h_rq := row3_new w23 28 (.bool (sg (oTop (some z_p)))) (.slice A_q n_q c_q) (.slice B_q m_q d_q)
        have bn := below_new w23 (.cells #[Value.bool (sg (oTop (some z_p))), Value.slice A_q n_q c_q, Value.slice B_q m_q d_q] 28)
        replace h_a := h_a.below bn
        replace h_b := h_b.below bn
        replace h_c := h_c.below bn
        replace h_ra := h_ra.below bn
        replace h_rb := h_rb.below bn
        replace h_rc := h_rc.below bn
        replace h_s := h_s.below bn
        replace h_rs := h_rs.below bn
        replace h_t := h_t.below bn
        replace h_rt := h_rt.below bn
        replace h_u := h_u.below bn
        replace h_ru := h_ru.below bn
        replace h_v := h_v.below bn
        replace h_rv := h_rv.below bn
        replace h_w0 := h_w0.below bn
        replace h_rw0 := h_rw0.below bn
        replace h_p := h_p.below bn
        replace h_rp := h_rp.below bn
        replace h_q := h_q.below bn
        replace bw := below_two bw bn
        clear bn
        have c_s0 := h_rs.c0
        have c_s1 := h_rs.c1
        have c_s2 := h_rs.c2
        have c_c0 := h_rc.c0
        have c_c1 := h_rc.c1
        have c_c2 := h_rc.c2
        go_wp2_with fail
        clear c_s0 c_s1 c_s2 c_c0 c_c1 c_c2
        generalize w23.alloc (.cells #[Value.bool (sg (oTop (some z_p))), Value.slice A_q n_q c_q, Value.slice B_q m_q d_q] 28) = w24 at *
        obtain ⟨q_q, eg⟩ : ∃ g, g = w23.heap.size := ⟨_, rfl⟩
        rw [← eg] at h_rq ⊢
        clear eg
        refine (rMul_c h_s h_c (by decide) (by decide) _ _ F7.out).mono ?_
        rintro e w25 ⟨A_x, n_x, c_x, B_x, m_x, d_x, rfl, h_x, bn⟩
        replace h_a := h_a.below bn
        replace h_b := h_b.below bn
        replace h_c := h_c.below bn
        replace h_ra := h_ra.below bn
        replace h_rb := h_rb.below bn
        replace h_rc := h_rc.below bn
        replace h_s := h_s.below bn
        replace h_rs := h_rs.below bn
        replace h_t := h_t.below bn
        replace h_rt := h_rt.below bn
        replace h_u := h_u.below bn
        replace h_ru := h_ru.below bn
        replace h_v := h_v.below bn
        replace h_rv := h_rv.below bn
        replace h_w0 := h_w0.below bn
        replace h_rw0 := h_rw0.below bn
        replace h_p := h_p.below bn
        replace h_rp := h_rp.below bn
        replace h_q := h_q.below bn
        replace h_rq := h_rq.below bn
        replace bw := below_two bw bn
        clear bn
        have h_rx := row3_new w25 28 (.bool (sg (oTop (some z_x)))) (.slice A_x n_x c_x) (.slice B_x m_x d_x)
        have bn := below_new w25 (.cells #[Value.bool (sg (oTop (some z_x))), Value.slice A_x n_x c_x, Value.slice B_x m_x d_x] 28)
        replace h_a := h_a.below bn
        replace h_b := h_b.below bn
        replace h_c := h_c.below bn
        replace h_ra := h_ra.below bn
        replace h_rb := h_rb.below bn
        replace h_rc := h_rc.below bn
        replace h_s := h_s.below bn
        replace h_rs := h_rs.below bn
        replace h_t := h_t.below bn
        replace h_rt := h_rt.below bn
        replace h_u := h_u.below bn
        replace h_ru := h_ru.below bn
        replace h_v := h_v.below bn
        replace h_rv := h_rv.below bn
        replace h_w0 := h_w0.below bn
        replace h_rw0 := h_rw0.below bn
        replace h_p := h_p.below bn
        replace h_rp := h_rp.below bn
        replace h_q := h_q.below bn
        replace h_rq := h_rq.below bn
        replace h_x := h_x.below bn
        replace bw := below_two bw bn
        clear bn
        have c_a0 := h_ra.c0
        have c_a1 := h_ra.c1
        have c_a2 := h_ra.c2
        have c_c0 := h_rc.c0
        have c_c1 := h_rc.c1
        have c_c2 := h_rc.c2
        go_wp2_with fail
        clear c_a0 c_a1 c_a2 c_c0 c_c1 c_c2
        generalize w25.alloc (.cells #[Value.bool (sg (oTop (some z_x))), Value.slice A_x n_x c_x, Value.slice B_x m_x d_x] 28) = w26 at *
        obtain ⟨q_x, eg⟩ : ∃ g, g = w25.heap.size := ⟨_, rfl⟩
        rw [← eg] at h_rx ⊢
        clear eg
        refine (rMul_c h_a h_c (by decide) (by decide) _ _ F8.out).mono ?_
        rintro e w27 ⟨A_y, n_y, c_y, B_y, m_y, d_y, rfl, h_y, bn⟩
        replace h_a := h_a.below bn
        replace h_b := h_b.below bn
        replace h_c := h_c.below bn
        replace h_ra := h_ra.below bn
        replace h_rb := h_rb.below bn
        replace h_rc := h_rc.below bn
        replace h_s := h_s.below bn
        replace h_rs := h_rs.below bn
        replace h_t := h_t.below bn
        replace h_rt := h_rt.below bn
        replace h_u := h_u.below bn
        replace h_ru := h_ru.below bn
        replace h_v := h_v.below bn
        replace h_rv := h_rv.below bn
        replace h_w0 := h_w0.below bn
        replace h_rw0 := h_rw0.below bn
        replace h_p := h_p.below bn
        replace h_rp := h_rp.below bn
        replace h_q := h_q.below bn
        replace h_rq := h_rq.below bn
        replace h_x := h_x.below bn
        replace h_rx := h_rx.below bn
        replace bw := below_two bw bn
        clear bn
        have h_ry := row3_new w27 28 (.bool (sg (oTop (some z_y)))) (.slice A_y n_y c_y) (.slice B_y m_y d_y)
        have bn := below_new w27 (.cells #[Value.bool (sg (oTop (some z_y))), Value.slice A_y n_y c_y, Value.slice B_y m_y d_y] 28)
        replace h_a := h_a.below bn
        replace h_b := h_b.below bn
        replace h_c := h_c.below bn
        replace h_ra := h_ra.below bn
        replace h_rb := h_rb.below bn
        replace h_rc := h_rc.below bn
        replace h_s := h_s.below bn
        replace h_rs := h_rs.below bn
        replace h_t := h_t.below bn
        replace h_rt := h_rt.below bn
        replace h_u := h_u.below bn
        replace h_ru := h_ru.below bn
        replace h_v := h_v.below bn
        replace h_rv := h_rv.below bn
        replace h_w0 := h_w0.below bn
        replace h_rw0 := h_rw0.below bn
        replace h_p := h_p.below bn
        replace h_rp := h_rp.below bn
        replace h_q := h_q.below bn
        replace h_rq := h_rq.below bn
        replace h_x := h_x.below bn
        replace h_rx := h_rx.below bn
        replace h_y := h_y.below bn
        replace bw := below_two bw bn
        clear bn
        have c_b0 := h_rb.c0
        have c_b1 := h_rb.c1
        have c_b2 := h_rb.c2
        have c_c0 := h_rc.c0
        have c_c1 := h_rc.c1
        have c_c2 := h_rc.c2
        go_wp2_with fail
        clear c_b0 c_b1 c_b2 c_c0 c_c1 c_c2
        generalize w27.alloc (.cells #[Value.bool (sg (oTop (some z_y))), Value.slice A_y n_y c_y, Value.slice B_y m_y d_y] 28) = w28 at *
        obtain ⟨q_y, eg⟩ : ∃ g, g = w27.heap.size := ⟨_, rfl⟩
        rw [← eg] at h_ry ⊢
        clear eg
        refine (rMul_c h_b h_c (by decide) (by decide) _ _ F9.out).mono ?_
        rintro e w29 ⟨A_z, n_z, c_z, B_z, m_z, d_z, rfl, h_z, bn⟩
        replace h_a := h_a.below bn
        replace h_b := h_b.below bn
        replace h_c := h_c.below bn
        replace h_ra := h_ra.below bn
        replace h_rb := h_rb.below bn
        replace h_rc := h_rc.below bn
        replace h_s := h_s.below bn
        replace h_rs := h_rs.below bn
        replace h_t := h_t.below bn
        replace h_rt := h_rt.below bn
        replace h_u := h_u.below bn
        replace h_ru := h_ru.below bn
        replace h_v := h_v.below bn
        replace h_rv := h_rv.below bn
        replace h_w0 := h_w0.below bn
        replace h_rw0 := h_rw0.below bn
        replace h_p := h_p.below bn
        replace h_rp := h_rp.below bn
        replace h_q := h_q.below bn
        replace h_rq := h_rq.below bn
        replace h_x := h_x.below bn
        replace h_rx := h_rx.below bn
        replace h_y := h_y.below bn
        replace h_ry := h_ry.below bn
        replace bw := below_two bw bn
        clear bn
        have h_rz := row3_new w29 28 (.bool (sg (oTop (some z_z)))) (.slice A_z n_z c_z) (.slice B_z m_z d_z)
        have bn := below_new w29 (.cells #[Value.bool (sg (oTop (some z_z))), Value.slice A_z n_z c_z, Value.slice B_z m_z d_z] 28)
        replace h_a := h_a.below bn
        replace h_b := h_b.below bn
        replace h_c := h_c.below bn
        replace h_ra := h_ra.below bn
        replace h_rb := h_rb.below bn
        replace h_rc := h_rc.below bn
        replace h_s := h_s.below bn
        replace h_rs := h_rs.below bn
        replace h_t := h_t.below bn
        replace h_rt := h_rt.below bn
        replace h_u := h_u.below bn
        replace h_ru := h_ru.below bn
        replace h_v := h_v.below bn
        replace h_rv := h_rv.below bn
        replace h_w0 := h_w0.below bn
        replace h_rw0 := h_rw0.below bn
        replace h_p := h_p.below bn
        replace h_rp := h_rp.below bn
        replace h_q := h_q.below bn
        replace h_rq := h_rq.below bn
        replace h_x := h_x.below bn
        replace h_rx := h_rx.below bn
        replace h_y := h_y.below bn
        replace h_ry := h_ry.below bn
        replace h_z := h_z.below bn
        replace bw := below_two bw bn
        clear bn
        have c_y0 := h_ry.c0
        have c_y1 := h_ry.c1
        have c_y2 := h_ry.c2
        have c_z0 := h_rz.c0
        have c_z1 := h_rz.c1
        have c_z2 := h_rz.c2
        go_wp2_with fail
        clear c_y0 c_y1 c_y2 c_z0 c_z1 c_z2
        generalize w29.alloc (.cells #[Value.bool (sg (oTop (some z_z))), Value.slice A_z n_z c_z, Value.slice B_z m_z d_z] 28) = w30 at *
        obtain ⟨q_z, eg⟩ : ∃ g, g = w29.heap.size := ⟨_, rfl⟩
        rw [← eg] at h_rz ⊢
        clear eg
        refine (rAdd_c h_y h_z (by decide) (by decide) _ _ F10.out).mono ?_
        rintro e w31 ⟨A_l, n_l, c_l, B_l, m_l, d_l, rfl, h_l, bn⟩
        replace h_a := h_a.below bn
        replace h_b := h_b.below bn
        replace h_c := h_c.below bn
        replace h_ra := h_ra.below bn
        replace h_rb := h_rb.below bn
        replace h_rc := h_rc.below bn
        replace h_s := h_s.below bn
        replace h_rs := h_rs.below bn
        replace h_t := h_t.below bn
        replace h_rt := h_rt.below bn
        replace h_u := h_u.below bn
        replace h_ru := h_ru.below bn
        replace h_v := h_v.below bn
        replace h_rv := h_rv.below bn
        replace h_w0 := h_w0.below bn
        replace h_rw0 := h_rw0.below bn
        replace h_p := h_p.below bn
        replace h_rp := h_rp.below bn
        replace h_q := h_q.below bn
        replace h_rq := h_rq.below bn
        replace h_x := h_x.below bn
        replace h_rx := h_rx.below bn
        replace h_y := h_y.below bn
        replace h_ry := h_ry.below bn
        replace h_z := h_z.below bn
        replace h_rz := h_rz.below bn
        replace bw := below_two bw bn
        clear bn
        have h_rl := row3_new w31 28 (.bool (sg (oTop (some z_x)))) (.slice A_l n_l c_l) (.slice B_l m_l d_l)
        have bn := below_new w31 (.cells #[Value.bool (sg (oTop (some z_x))), Value.slice A_l n_l c_l, Value.slice B_l m_l d_l] 28)
        replace h_a := h_a.below bn
        replace h_b := h_b.below bn
        replace h_c := h_c.below bn
        replace h_ra := h_ra.below bn
        replace h_rb := h_rb.below bn
        replace h_rc := h_rc.below bn
        replace h_s := h_s.below bn
        replace h_rs := h_rs.below bn
        replace h_t := h_t.below bn
        replace h_rt := h_rt.below bn
        replace h_u := h_u.below bn
        replace h_ru := h_ru.below bn
        replace h_v := h_v.below bn
        replace h_rv := h_rv.below bn
        replace h_w0 := h_w0.below bn
        replace h_rw0 := h_rw0.below bn
        replace h_p := h_p.below bn
        replace h_rp := h_rp.below bn
        replace h_q := h_q.below bn
        replace h_rq := h_rq.below bn
        replace h_x := h_x.below bn
        replace h_rx := h_rx.below bn
        replace h_y := h_y.below bn
        replace h_ry := h_ry.below bn
        replace h_z := h_z.below bn
        replace h_rz := h_rz.below bn
        replace h_l := h_l.below bn
        replace bw := below_two bw bn
        clear bn
        have c_s0 := h_rs.c0
        have c_s1 := h_rs.c1
        have c_s2 := h_rs.c2
        have c_b0 := h_rb.c0
        have c_b1 := h_rb.c1
        have c_b2 := h_rb.c2
        go_wp2_with fail
        clear c_s0 c_s1 c_s2 c_b0 c_b1 c_b2
        generalize w31.alloc (.cells #[Value.bool (sg (oTop (some z_x))), Value.slice A_l n_l c_l, Value.slice B_l m_l d_l] 28) = w32 at *
        obtain ⟨q_l, eg⟩ : ∃ g, g = w31.heap.size := ⟨_, rfl⟩
        rw [← eg] at h_rl ⊢
        clear eg
        refine (rSub_c h_s h_b (by decide) (by decide) _ _ F11.out).mono ?_
        rintro e w33 ⟨A_d, n_d, c_d, B_d, m_d, d_d, rfl, h_d, bn⟩
        replace h_a := h_a.below bn
        replace h_b := h_b.below bn
        replace h_c := h_c.below bn
        replace h_ra := h_ra.below bn
        replace h_rb := h_rb.below bn
        replace h_rc := h_rc.below bn
        replace h_s := h_s.below bn
        replace h_rs := h_rs.below bn
        replace h_t := h_t.below bn
        replace h_rt := h_rt.below bn
        replace h_u := h_u.below bn
        replace h_ru := h_ru.below bn
        replace h_v := h_v.below bn
        replace h_rv := h_rv.below bn
        replace h_w0 := h_w0.below bn
        replace h_rw0 := h_rw0.below bn
        replace h_p := h_p.below bn
        replace h_rp := h_rp.below bn
        replace h_q := h_q.below bn
        replace h_rq := h_rq.below bn
        replace h_x := h_x.below bn
        replace h_rx := h_rx.below bn
        replace h_y := h_y.below bn
        replace h_ry := h_ry.below bn
        replace h_z := h_z.below bn
        replace h_rz := h_rz.below bn
        replace h_l := h_l.below bn
        replace h_rl := h_rl.below bn
        replace bw := below_two bw bn
        clear bn
        have h_rd := row3_new w33 28 (.bool (sg (oTop (some z_a)))) (.slice A_d n_d c_d) (.slice B_d m_d d_d)
        have bn := below_new w33 (.cells #[Value.bool (sg (oTop (some z_a))), Value.slice A_d n_d c_d, Value.slice B_d m_d d_d] 28)
        replace h_a := h_a.below bn
        replace h_b := h_b.below bn
        replace h_c := h_c.below bn
        replace h_ra := h_ra.below bn
        replace h_rb := h_rb.below bn
        replace h_rc := h_rc.below bn
        replace h_s := h_s.below bn
        replace h_rs := h_rs.below bn
        replace h_t := h_t.below bn
        replace h_rt := h_rt.below bn
        replace h_u := h_u.below bn
        replace h_ru := h_ru.below bn
        replace h_v := h_v.below bn
        replace h_rv := h_rv.below bn
        replace h_w0 := h_w0.below bn
        replace h_rw0 := h_rw0.below bn
        replace h_p := h_p.below bn
        replace h_rp := h_rp.below bn
        replace h_q := h_q.below bn
        replace h_rq := h_rq.below bn
        replace h_x := h_x.below bn
        replace h_rx := h_rx.below bn
        replace h_y := h_y.below bn
        replace h_ry := h_ry.below bn
        replace h_z := h_z.below bn
        replace h_rz := h_rz.below bn
        replace h_l := h_l.below bn
        replace h_rl := h_rl.below bn
        replace h_d := h_d.below bn
        replace bw := below_two bw bn
        clear bn
        have c_s0 := h_rs.c0
        have c_s1 := h_rs.c1
        have c_s2 := h_rs.c2
        have c_t0 := h_rt.c0
        have c_t1 := h_rt.c1
        have c_t2 := h_rt.c2
        go_wp2_with fail
        clear c_s0 c_s1 c_s2 c_t0 c_t1 c_t2
        generalize w33.alloc (.cells #[Value.bool (sg (oTop (some z_a))), Value.slice A_d n_d c_d, Value.slice B_d m_d d_d] 28) = w34 at *
        obtain ⟨q_d, eg⟩ : ∃ g, g = w33.heap.size := ⟨_, rfl⟩
        rw [← eg] at h_rd ⊢
        clear eg
        refine (keepRat_c h_s h_t (by decide) (by decide) true (keepQ rfl)).mono ?_
        rintro e w35 ⟨rfl, bn⟩
        replace h_a := h_a.below bn
        replace h_b := h_b.below bn
        replace h_c := h_c.below bn
        replace h_ra := h_ra.below bn
        replace h_rb := h_rb.below bn
        replace h_rc := h_rc.below bn
        replace h_s := h_s.below bn
        replace h_rs := h_rs.below bn
        replace h_t := h_t.below bn
        replace h_rt := h_rt.below bn
        replace h_u := h_u.below bn
        replace h_ru := h_ru.below bn
        replace h_v := h_v.below bn
        replace h_rv := h_rv.below bn
        replace h_w0 := h_w0.below bn
        replace h_rw0 := h_rw0.below bn
        replace h_p := h_p.below bn
        replace h_rp := h_rp.below bn
        replace h_q := h_q.below bn
        replace h_rq := h_rq.below bn
        replace h_x := h_x.below bn
        replace h_rx := h_rx.below bn
        replace h_y := h_y.below bn
        replace h_ry := h_ry.below bn
        replace h_z := h_z.below bn
        replace h_rz := h_rz.below bn
        replace h_l := h_l.below bn
        replace h_rl := h_rl.below bn
        replace h_d := h_d.below bn
        replace h_rd := h_rd.below bn
        replace bw := below_two bw bn
        clear bn
        have c_u0 := h_ru.c0
        have c_u1 := h_ru.c1
        have c_u2 := h_ru.c2
        have c_w00 := h_rw0.c0
        have c_w01 := h_rw0.c1
        have c_w02 := h_rw0.c2
        go_wp2_with fail
        clear c_u0 c_u1 c_u2 c_w00 c_w01 c_w02
        refine (keepRat_c h_u h_w0 (by decide) (by decide) true (keepQ rfl)).mono ?_
        rintro e w36 ⟨rfl, bn⟩
        replace h_a := h_a.below bn
        replace h_b := h_b.below bn
        replace h_c := h_c.below bn
        replace h_ra := h_ra.below bn
        replace h_rb := h_rb.below bn
        replace h_rc := h_rc.below bn
        replace h_s := h_s.below bn
        replace h_rs := h_rs.below bn
        replace h_t := h_t.below bn
        replace h_rt := h_rt.below bn
        replace h_u := h_u.below bn
        replace h_ru := h_ru.below bn
        replace h_v := h_v.below bn
        replace h_rv := h_rv.below bn
        replace h_w0 := h_w0.below bn
        replace h_rw0 := h_rw0.below bn
        replace h_p := h_p.below bn
        replace h_rp := h_rp.below bn
        replace h_q := h_q.below bn
        replace h_rq := h_rq.below bn
        replace h_x := h_x.below bn
        replace h_rx := h_rx.below bn
        replace h_y := h_y.below bn
        replace h_ry := h_ry.below bn
        replace h_z := h_z.below bn
        replace h_rz := h_rz.below bn
        replace h_l := h_l.below bn
        replace h_rl := h_rl.below bn
        replace h_d := h_d.below bn
        replace h_rd := h_rd.below bn
        replace bw := below_two bw bn
        clear bn
        have c_p0 := h_rp.c0
        have c_p1 := h_rp.c1
        have c_p2 := h_rp.c2
        have c_q0 := h_rq.c0
        have c_q1 := h_rq.c1
        have c_q2 := h_rq.c2
        go_wp2_with fail
        clear c_p0 c_p1 c_p2 c_q0 c_q1 c_q2
        refine (keepRat_c h_p h_q (by decide) (by decide) true (keepQ rfl)).mono ?_
        rintro e w37 ⟨rfl, bn⟩
        replace h_a := h_a.below bn
        replace h_b := h_b.below bn
        replace h_c := h_c.below bn
        replace h_ra := h_ra.below bn
        replace h_rb := h_rb.below bn
        replace h_rc := h_rc.below bn
        replace h_s := h_s.below bn
        replace h_rs := h_rs.below bn
        replace h_t := h_t.below bn
        replace h_rt := h_rt.below bn
        replace h_u := h_u.below bn
        replace h_ru := h_ru.below bn
        replace h_v := h_v.below bn
        replace h_rv := h_rv.below bn
        replace h_w0 := h_w0.below bn
        replace h_rw0 := h_rw0.below bn
        replace h_p := h_p.below bn
        replace h_rp := h_rp.below bn
        replace h_q := h_q.below bn
        replace h_rq := h_rq.below bn
        replace h_x := h_x.below bn
        replace h_rx := h_rx.below bn
        replace h_y := h_y.below bn
        replace h_ry := h_ry.below bn
        replace h_z := h_z.below bn
        replace h_rz := h_rz.below bn
        replace h_l := h_l.below bn
        replace h_rl := h_rl.below bn
        replace h_d := h_d.below bn
        replace h_rd := h_rd.below bn
        replace bw := below_two bw bn
        clear bn
        have c_x0 := h_rx.c0
        have c_x1 := h_rx.c1
        have c_x2 := h_rx.c2
        have c_l0 := h_rl.c0
        have c_l1 := h_rl.c1
        have c_l2 := h_rl.c2
        go_wp2_with fail
        clear c_x0 c_x1 c_x2 c_l0 c_l1 c_l2
        refine (keepRat_c h_x h_l (by decide) (by decide) true (keepQ rfl)).mono ?_
        rintro e w38 ⟨rfl, bn⟩
        replace h_a := h_a.below bn
        replace h_b := h_b.below bn
        replace h_c := h_c.below bn
        replace h_ra := h_ra.below bn
        replace h_rb := h_rb.below bn
        replace h_rc := h_rc.below bn
        replace h_s := h_s.below bn
        replace h_rs := h_rs.below bn
        replace h_t := h_t.below bn
        replace h_rt := h_rt.below bn
        replace h_u := h_u.below bn
        replace h_ru := h_ru.below bn
        replace h_v := h_v.below bn
        replace h_rv := h_rv.below bn
        replace h_w0 := h_w0.below bn
        replace h_rw0 := h_rw0.below bn
        replace h_p := h_p.below bn
        replace h_rp := h_rp.below bn
        replace h_q := h_q.below bn
        replace h_rq := h_rq.below bn
        replace h_x := h_x.below bn
        replace h_rx := h_rx.below bn
        replace h_y := h_y.below bn
        replace h_ry := h_ry.below bn
        replace h_z := h_z.below bn
        replace h_rz := h_rz.below bn
        replace h_l := h_l.below bn
        replace h_rl := h_rl.below bn
        replace h_d := h_d.below bn
        replace h_rd := h_rd.below bn
        replace bw := below_two bw bn
        clear bn
        have c_d0 := h_rd.c0
        have c_d1 := h_rd.c1
        have c_d2 := h_rd.c2
        have c_a0 := h_ra.c0
        have c_a1 := h_ra.c1
        have c_a2 := h_ra.c2
        go_wp2_with fail
        clear c_d0 c_d1 c_d2 c_a0 c_a1 c_a2
        refine (keepRat_c h_d h_a (by decide) (by decide) true (keepQ rfl)).mono ?_
        rintro e w39 ⟨rfl, bn⟩
        replace h_a := h_a.below bn
        replace h_b := h_b.below bn
        replace h_c := h_c.below bn
        replace h_ra := h_ra.below bn
        replace h_rb := h_rb.below bn
        replace h_rc := h_rc.below bn
        replace h_s := h_s.below bn
        replace h_rs := h_rs.below bn
        replace h_t := h_t.below bn
        replace h_rt := h_rt.below bn
        replace h_u := h_u.below bn
        replace h_ru := h_ru.below bn
        replace h_v := h_v.below bn
        replace h_rv := h_rv.below bn
        replace h_w0 := h_w0.below bn
        replace h_rw0 := h_rw0.below bn
        replace h_p := h_p.below bn
        replace h_rp := h_rp.below bn
        replace h_q := h_q.below bn
        replace h_rq := h_rq.below bn
        replace h_x := h_x.below bn
        replace h_rx := h_rx.below bn
        replace h_y := h_y.below bn
        replace h_ry := h_ry.below bn
        replace h_z := h_z.below bn
        replace h_rz := h_rz.below bn
        replace h_l := h_l.below bn
        replace h_rl := h_rl.below bn
        replace h_d := h_d.below bn
        replace h_rd := h_rd.below bn
        replace bw := below_two bw bn
        clear bn
        have c_s0 := h_rs.c0
        have c_s1 := h_rs.c1
        have c_s2 := h_rs.c2
        go_wp2_with fail
        clear c_s0 c_s1 c_s2
        refine (rGood_c h_s (by decide) true rfl).mono ?_
        rintro e w40 ⟨rfl, bn⟩
        replace h_a := h_a.below bn
        replace h_b := h_b.below bn
        replace h_c := h_c.below bn
        replace h_ra := h_ra.below bn
        replace h_rb := h_rb.below bn
        replace h_rc := h_rc.below bn
        replace h_s := h_s.below bn
        replace h_rs := h_rs.below bn
        replace h_t := h_t.below bn
        replace h_rt := h_rt.below bn
        replace h_u := h_u.below bn
        replace h_ru := h_ru.below bn
        replace h_v := h_v.below bn
        replace h_rv := h_rv.below bn
        replace h_w0 := h_w0.below bn
        replace h_rw0 := h_rw0.below bn
        replace h_p := h_p.below bn
        replace h_rp := h_rp.below bn
        replace h_q := h_q.below bn
        replace h_rq := h_rq.below bn
        replace h_x := h_x.below bn
        replace h_rx := h_rx.below bn
        replace h_y := h_y.below bn
        replace h_ry := h_ry.below bn
        replace h_z := h_z.below bn
        replace h_rz := h_rz.below bn
        replace h_l := h_l.below bn
        replace h_rl := h_rl.below bn
        replace h_d := h_d.below bn
        replace h_rd := h_rd.below bn
        replace bw := below_two bw bn
        clear bn
        have c_p0 := h_rp.c0
        have c_p1 := h_rp.c1
        have c_p2 := h_rp.c2
        go_wp2_with fail
        clear c_p0 c_p1 c_p2
        refine (rGood_c h_p (by decide) true rfl).mono ?_
        rintro e w41 ⟨rfl, bn⟩
        replace h_a := h_a.below bn
        replace h_b := h_b.below bn
        replace h_c := h_c.below bn
        replace h_ra := h_ra.below bn
        replace h_rb := h_rb.below bn
        replace h_rc := h_rc.below bn
        replace h_s := h_s.below bn
        replace h_rs := h_rs.below bn
        replace h_t := h_t.below bn
        replace h_rt := h_rt.below bn
        replace h_u := h_u.below bn
        replace h_ru := h_ru.below bn
        replace h_v := h_v.below bn
        replace h_rv := h_rv.below bn
        replace h_w0 := h_w0.below bn
        replace h_rw0 := h_rw0.below bn
        replace h_p := h_p.below bn
        replace h_rp := h_rp.below bn
        replace h_q := h_q.below bn
        replace h_rq := h_rq.below bn
        replace h_x := h_x.below bn
        replace h_rx := h_rx.below bn
        replace h_y := h_y.below bn
        replace h_ry := h_ry.below bn
        replace h_z := h_z.below bn
        replace h_rz := h_rz.below bn
        replace h_l := h_l.below bn
        replace h_rl := h_rl.below bn
        replace h_d := h_d.below bn
        replace h_rd := h_rd.below bn
        replace bw := below_two bw bn
        clear bn
        by_cases hb0 : z_b.num = 0
        case pos =>
          have G := Lib.hid (F12.out hb0)
          have V := Lib.hid (show cmpR (some z_b) (some 0) = 0 from by have h := sign_num (q := z_b); rw [decide_eq_true hb0, beq_iff_eq] at h; exact h)
          clear hb0
          have c_p0 := h_rp.c0
          have c_p1 := h_rp.c1
          have c_p2 := h_rp.c2
          have c_b0 := h_rb.c0
          have c_b1 := h_rb.c1
          have c_b2 := h_rb.c2
          go_wp2_with fail
          clear c_p0 c_p1 c_p2 c_b0 c_b1 c_b2
          refine (rDiv_c h_p h_b (by decide) (by decide) _ _ G.out).mono ?_
          rintro e w42 ⟨A_n, n_n, c_n, B_n, m_n, d_n, rfl, h_n, bn⟩
          replace h_a := h_a.below bn
          replace h_b := h_b.below bn
          replace h_c := h_c.below bn
          replace h_ra := h_ra.below bn
          replace h_rb := h_rb.below bn
          replace h_rc := h_rc.below bn
          replace h_s := h_s.below bn
          replace h_rs := h_rs.below bn
          replace h_t := h_t.below bn
          replace h_rt := h_rt.below bn
          replace h_u := h_u.below bn
          replace h_ru := h_ru.below bn
          replace h_v := h_v.below bn
          replace h_rv := h_rv.below bn
          replace h_w0 := h_w0.below bn
          replace h_rw0 := h_rw0.below bn
          replace h_p := h_p.below bn
          replace h_rp := h_rp.below bn
          replace h_q := h_q.below bn
          replace h_rq := h_rq.below bn
          replace h_x := h_x.below bn
          replace h_rx := h_rx.below bn
          replace h_y := h_y.below bn
          replace h_ry := h_ry.below bn
          replace h_z := h_z.below bn
          replace h_rz := h_rz.below bn
          replace h_l := h_l.below bn
          replace h_rl := h_rl.below bn
          replace h_d := h_d.below bn
          replace h_rd := h_rd.below bn
          replace bw := below_two bw bn
          clear bn
          have h_rn := row3_new w42 28 (.bool (sg (oTop none))) (.slice A_n n_n c_n) (.slice B_n m_n d_n)
          have bn := below_new w42 (.cells #[Value.bool (sg (oTop none)), Value.slice A_n n_n c_n, Value.slice B_n m_n d_n] 28)
          replace h_a := h_a.below bn
          replace h_b := h_b.below bn
          replace h_c := h_c.below bn
          replace h_ra := h_ra.below bn
          replace h_rb := h_rb.below bn
          replace h_rc := h_rc.below bn
          replace h_s := h_s.below bn
          replace h_rs := h_rs.below bn
          replace h_t := h_t.below bn
          replace h_rt := h_rt.below bn
          replace h_u := h_u.below bn
          replace h_ru := h_ru.below bn
          replace h_v := h_v.below bn
          replace h_rv := h_rv.below bn
          replace h_w0 := h_w0.below bn
          replace h_rw0 := h_rw0.below bn
          replace h_p := h_p.below bn
          replace h_rp := h_rp.below bn
          replace h_q := h_q.below bn
          replace h_rq := h_rq.below bn
          replace h_x := h_x.below bn
          replace h_rx := h_rx.below bn
          replace h_y := h_y.below bn
          replace h_ry := h_ry.below bn
          replace h_z := h_z.below bn
          replace h_rz := h_rz.below bn
          replace h_l := h_l.below bn
          replace h_rl := h_rl.below bn
          replace h_d := h_d.below bn
          replace h_rd := h_rd.below bn
          replace h_n := h_n.below bn
          replace bw := below_two bw bn
          clear bn
          have c_b0 := h_rb.c0
          have c_b1 := h_rb.c1
          have c_b2 := h_rb.c2
          go_wp2_with fail
          clear c_b0 c_b1 c_b2
          generalize w42.alloc (.cells #[Value.bool (sg (oTop none)), Value.slice A_n n_n c_n, Value.slice B_n m_n d_n] 28) = w43 at *
          obtain ⟨q_n, eg⟩ : ∃ g, g = w42.heap.size := ⟨_, rfl⟩
          rw [← eg] at h_rn ⊢
          clear eg
          refine (rSign_c h_b (by decide) 0 V.out).mono ?_
          rintro e w44 ⟨rfl, bn⟩
          replace h_a := h_a.below bn
          replace h_b := h_b.below bn
          replace h_c := h_c.below bn
          replace h_ra := h_ra.below bn
          replace h_rb := h_rb.below bn
          replace h_rc := h_rc.below bn
          replace h_s := h_s.below bn
          replace h_rs := h_rs.below bn
          replace h_t := h_t.below bn
          replace h_rt := h_rt.below bn
          replace h_u := h_u.below bn
          replace h_ru := h_ru.below bn
          replace h_v := h_v.below bn
          replace h_rv := h_rv.below bn
          replace h_w0 := h_w0.below bn
          replace h_rw0 := h_rw0.below bn
          replace h_p := h_p.below bn
          replace h_rp := h_rp.below bn
          replace h_q := h_q.below bn
          replace h_rq := h_rq.below bn
          replace h_x := h_x.below bn
          replace h_rx := h_rx.below bn
          replace h_y := h_y.below bn
          replace h_ry := h_ry.below bn
          replace h_z := h_z.below bn
          replace h_rz := h_rz.below bn
          replace h_l := h_l.below bn
          replace h_rl := h_rl.below bn
          replace h_d := h_d.below bn
          replace h_rd := h_rd.below bn
          replace h_n := h_n.below bn
          replace h_rn := h_rn.below bn
          replace bw := below_two bw bn
          clear bn
          go_wp2_with fail
          refine (wakes_any _).mono ?_
          rintro e w45 ⟨rfl, bn⟩
          replace h_a := h_a.below bn
          replace h_b := h_b.below bn
          replace h_c := h_c.below bn
          replace h_ra := h_ra.below bn
          replace h_rb := h_rb.below bn
          replace h_rc := h_rc.below bn
          replace h_s := h_s.below bn
          replace h_rs := h_rs.below bn
          replace h_t := h_t.below bn
          replace h_rt := h_rt.below bn
          replace h_u := h_u.below bn
          replace h_ru := h_ru.below bn
          replace h_v := h_v.below bn
          replace h_rv := h_rv.below bn
          replace h_w0 := h_w0.below bn
          replace h_rw0 := h_rw0.below bn
          replace h_p := h_p.below bn
          replace h_rp := h_rp.below bn
          replace h_q := h_q.below bn
          replace h_rq := h_rq.below bn
          replace h_x := h_x.below bn
          replace h_rx := h_rx.below bn
          replace h_y := h_y.below bn
          replace h_ry := h_ry.below bn
          replace h_z := h_z.below bn
          replace h_rz := h_rz.below bn
          replace h_l := h_l.below bn
          replace h_rl := h_rl.below bn
          replace h_d := h_d.below bn
          replace h_rd := h_rd.below bn
          replace h_n := h_n.below bn
          replace h_rn := h_rn.below bn
          replace bw := below_two bw bn
          clear bn
          go_wp2
          go_ret
          exact ⟨rfl, bw⟩
        have G := Lib.hid (F13.out hb0)
        obtain ⟨v, hv⟩ : ∃ v, cmpR (some z_b) (some 0) = v := ⟨_, rfl⟩
        have hv0 : (v == 0) = false := by
          have h := sign_num (q := z_b)
          rw [decide_eq_false hb0] at h
          rw [← hv]; exact h
        have V := Lib.hid hv
        clear hv hb0
        have c_p0 := h_rp.c0
        have c_p1 := h_rp.c1
        have c_p2 := h_rp.c2
        have c_b0 := h_rb.c0
        have c_b1 := h_rb.c1
        have c_b2 := h_rb.c2
        go_wp2_with fail
        clear c_p0 c_p1 c_p2 c_b0 c_b1 c_b2
        refine (rDiv_c h_p h_b (by decide) (by decide) _ _ G.out).mono ?_
        rintro e w46 ⟨A_n, n_n, c_n, B_n, m_n, d_n, rfl, h_n, bn⟩
        replace h_a := h_a.below bn
        replace h_b := h_b.below bn
        replace h_c := h_c.below bn
        replace h_ra := h_ra.below bn
        replace h_rb := h_rb.below bn
        replace h_rc := h_rc.below bn
        replace h_s := h_s.below bn
        replace h_rs := h_rs.below bn
        replace h_t := h_t.below bn
        replace h_rt := h_rt.below bn
        replace h_u := h_u.below bn
        replace h_ru := h_ru.below bn
        replace h_v := h_v.below bn
        replace h_rv := h_rv.below bn
        replace h_w0 := h_w0.below bn
        replace h_rw0 := h_rw0.below bn
        replace h_p := h_p.below bn
        replace h_rp := h_rp.below bn
        replace h_q := h_q.below bn
        replace h_rq := h_rq.below bn
        replace h_x := h_x.below bn
        replace h_rx := h_rx.below bn
        replace h_y := h_y.below bn
        replace h_ry := h_ry.below bn
        replace h_z := h_z.below bn
        replace h_rz := h_rz.below bn
        replace h_l := h_l.below bn
        replace h_rl := h_rl.below bn
        replace h_d := h_d.below bn
        replace h_rd := h_rd.below bn
        replace bw := below_two bw bn
        clear bn
        have h_rn := row3_new w46 28 (.bool (sg (oTop (some z_a)))) (.slice A_n n_n c_n) (.slice B_n m_n d_n)
        have bn := below_new w46 (.cells #[Value.bool (sg (oTop (some z_a))), Value.slice A_n n_n c_n, Value.slice B_n m_n d_n] 28)
        replace h_a := h_a.below bn
        replace h_b := h_b.below bn
        replace h_c := h_c.below bn
        replace h_ra := h_ra.below bn
        replace h_rb := h_rb.below bn
        replace h_rc := h_rc.below bn
        replace h_s := h_s.below bn
        replace h_rs := h_rs.below bn
        replace h_t := h_t.below bn
        replace h_rt := h_rt.below bn
        replace h_u := h_u.below bn
        replace h_ru := h_ru.below bn
        replace h_v := h_v.below bn
        replace h_rv := h_rv.below bn
        replace h_w0 := h_w0.below bn
        replace h_rw0 := h_rw0.below bn
        replace h_p := h_p.below bn
        replace h_rp := h_rp.below bn
        replace h_q := h_q.below bn
        replace h_rq := h_rq.below bn
        replace h_x := h_x.below bn
        replace h_rx := h_rx.below bn
        replace h_y := h_y.below bn
        replace h_ry := h_ry.below bn
        replace h_z := h_z.below bn
        replace h_rz := h_rz.below bn
        replace h_l := h_l.below bn
        replace h_rl := h_rl.below bn
        replace h_d := h_d.below bn
        replace h_rd := h_rd.below bn
        replace h_n := h_n.below bn
        replace bw := below_two bw bn
        clear bn
        have c_b0 := h_rb.c0
        have c_b1 := h_rb.c1
        have c_b2 := h_rb.c2
        go_wp2_with fail
        clear c_b0 c_b1 c_b2
        generalize w46.alloc (.cells #[Value.bool (sg (oTop (some z_a))), Value.slice A_n n_n c_n, Value.slice B_n m_n d_n] 28) = w47 at *
        obtain ⟨q_n, eg⟩ : ∃ g, g = w46.heap.size := ⟨_, rfl⟩
        rw [← eg] at h_rn ⊢
        clear eg
        refine (rSign_c h_b (by decide) v V.out).mono ?_
        rintro e w48 ⟨rfl, bn⟩
        replace h_a := h_a.below bn
        replace h_b := h_b.below bn
        replace h_c := h_c.below bn
        replace h_ra := h_ra.below bn
        replace h_rb := h_rb.below bn
        replace h_rc := h_rc.below bn
        replace h_s := h_s.below bn
        replace h_rs := h_rs.below bn
        replace h_t := h_t.below bn
        replace h_rt := h_rt.below bn
        replace h_u := h_u.below bn
        replace h_ru := h_ru.below bn
        replace h_v := h_v.below bn
        replace h_rv := h_rv.below bn
        replace h_w0 := h_w0.below bn
        replace h_rw0 := h_rw0.below bn
        replace h_p := h_p.below bn
        replace h_rp := h_rp.below bn
        replace h_q := h_q.below bn
        replace h_rq := h_rq.below bn
        replace h_x := h_x.below bn
        replace h_rx := h_rx.below bn
        replace h_y := h_y.below bn
        replace h_ry := h_ry.below bn
        replace h_z := h_z.below bn
        replace h_rz := h_rz.below bn
        replace h_l := h_l.below bn
        replace h_rl := h_rl.below bn
        replace h_d := h_d.below bn
        replace h_rd := h_rd.below bn
        replace h_n := h_n.below bn
        replace h_rn := h_rn.below bn
        replace bw := below_two bw bn
        clear bn
        have c_n0 := h_rn.c0
        have c_n1 := h_rn.c1
        have c_n2 := h_rn.c2
        have c_a0 := h_ra.c0
        have c_a1 := h_ra.c1
        have c_a2 := h_ra.c2
        go_wp2_with fail
        clear c_n0 c_n1 c_n2 c_a0 c_a1 c_a2
        refine (keepRat_c h_n h_a (by decide) (by decide) true (keepQ rfl)).mono ?_
        rintro e w49 ⟨rfl, bn⟩
        replace h_a := h_a.below bn
        replace h_b := h_b.below bn
        replace h_c := h_c.below bn
        replace h_ra := h_ra.below bn
        replace h_rb := h_rb.below bn
        replace h_rc := h_rc.below bn
        replace h_s := h_s.below bn
        replace h_rs := h_rs.below bn
        replace h_t := h_t.below bn
        replace h_rt := h_rt.below bn
        replace h_u := h_u.below bn
        replace h_ru := h_ru.below bn
        replace h_v := h_v.below bn
        replace h_rv := h_rv.below bn
        replace h_w0 := h_w0.below bn
        replace h_rw0 := h_rw0.below bn
        replace h_p := h_p.below bn
        replace h_rp := h_rp.below bn
        replace h_q := h_q.below bn
        replace h_rq := h_rq.below bn
        replace h_x := h_x.below bn
        replace h_rx := h_rx.below bn
        replace h_y := h_y.below bn
        replace h_ry := h_ry.below bn
        replace h_z := h_z.below bn
        replace h_rz := h_rz.below bn
        replace h_l := h_l.below bn
        replace h_rl := h_rl.below bn
        replace h_d := h_d.below bn
        replace h_rd := h_rd.below bn
        replace h_n := h_n.below bn
        replace h_rn := h_rn.below bn
        replace bw := below_two bw bn
        clear bn
        go_wp2_with fail
        refine (wakes_any _).mono ?_
        rintro e w50 ⟨rfl, bn⟩
        replace h_a := h_a.below bn
        replace h_b := h_b.below bn
        replace h_c := h_c.below bn
        replace h_ra := h_ra.below bn
        replace h_rb := h_rb.below bn
        replace h_rc := h_rc.below bn
        replace h_s := h_s.below bn
        replace h_rs := h_rs.below bn
        replace h_t := h_t.below bn
        replace h_rt := h_rt.below bn
        replace h_u := h_u.below bn
        replace h_ru := h_ru.below bn
        replace h_v := h_v.below bn
        replace h_rv := h_rv.below bn
        replace h_w0 := h_w0.below bn
        replace h_rw0 := h_rw0.below bn
        replace h_p := h_p.below bn
        replace h_rp := h_rp.below bn
        replace h_q := h_q.below bn
        replace h_rq := h_rq.below bn
        replace h_x := h_x.below bn
        replace h_rx := h_rx.below bn
        replace h_y := h_y.below bn
        replace h_ry := h_ry.below bn
        replace h_z := h_z.below bn
        replace h_rz := h_rz.below bn
        replace h_l := h_l.below bn
        replace h_rl := h_rl.below bn
        replace h_d := h_d.below bn
        replace h_rd := h_rd.below bn
        replace h_n := h_n.below bn
        replace h_rn := h_rn.below bn
        replace bw := below_two bw bn
        clear bn
        go_wp2
        go_ret
        exact ⟨rfl, bw⟩

set_option maxRecDepth 100000 in
theorem lifted (os : Os) (started : os.Started) (H : Type) (enc : TypeId × Value → H) :
    ReturnsInHanded {} Try.checked os 4 .any (Rows.ratFieldSpec.pre6 enc Try.prog Try.f4 Rows.ratFieldRow.domain false) (Rows.ratFieldSpec.post enc Try.prog Try.f4 false true false false) := by
  refine returnsInHanded_of_change (C := Try.checked) own started (by kernel_rfl) Try.func4
    (ChangeSpec.witness6 (enc := enc) (C := Try.checked) false ⟨#[], #[.agg #[.bool false, .slice none 0 0, .slice none 0 0], .agg #[.bool false, .slice none 0 0, .slice none 0 0], .agg #[.bool false, .slice none 0 0, .slice none 0 0]], []⟩ 8 (by kernel_rfl) (by kernel_rfl) (by kernel_rfl) (by kernel_rfl)) ?_
  intro W base args ds gs before hval0 hW hcnd _
  have hval : ∀ (j : Nat) t v, Try.f4.params[j]? = some t → args[j]? = some v → Value.okWide Try.prog W .any base t v := hval0
  have hW' := hW
  obtain ⟨p, q, hA0, hV, rfl, hfz, hnd⟩ := hW
  have hA : DataW.TrodAll enc Try.prog W 0 (fun _ => true) true Try.f4.params.toList args.toList ds p := hA0
  rw [Try.params4] at hA hval
  obtain ⟨v0, vs0, d0, ds0, p0, q0, hargs, rfl, rfl, h0, r0⟩ := trodAll_cons hA
  obtain ⟨v1, vs1, d1, ds1, p1, q1, rfl, rfl, rfl, h1, r1⟩ := trodAll_cons r0
  obtain ⟨v2, vs2, d2, ds2, p2, q2, rfl, rfl, rfl, h2, r2⟩ := trodAll_cons r1
  obtain ⟨rfl, rfl, rfl⟩ := trodAll_nil r2
  obtain rfl : args = #[v0, v1, v2] := by cases args; simp_all
  obtain ⟨rfl, rfl⟩ := trodVars_none hV
  obtain ⟨b0, a0, len0, cap0, z0, e0, lem0, dap0, y0, rfl, i0, hc0, hm0, k0, kc0, km0⟩ := open_rat (hval 0 28 v0 rfl rfl) h0
  obtain ⟨b1, a1, len1, cap1, z1, e1, lem1, dap1, y1, rfl, i1, hc1, hm1, k1, kc1, km1⟩ := open_rat (hval 1 28 v1 rfl rfl) h1
  obtain ⟨b2, a2, len2, cap2, z2, e2, lem2, dap2, y2, rfl, i2, hc2, hm2, k2, kc2, km2⟩ := open_rat (hval 2 28 v2 rfl rfl) h2
  clear hA0 hval0
  refine (walk b0 a0 len0 cap0 z0 e0 lem0 dap0 y0 b1 a1 len1 cap1 z1 e1 lem1 dap1 y1 b2 a2 len2 cap2 z2 e2 lem2 dap2 y2 W i0 hc0 hm0 k0 kc0 km0 i1 hc1 hm1 k1 kc1 km1 i2 hc2 hm2 k2 kc2 km2).mono fun e W' ⟨he, bel⟩ => ?_
  subst he
  exact ⟨_, rfl, _, _, _, [], _, [], hW', trodAll_mk1 (shut_bool Try.underlying4 _), (trodAll_cons_mk (Below.trod laidOut (by kernel_rfl) (of_decide_eq_true (by kernel_rfl)) h0 bel (places_lt h0)) (trodAll_cons_mk (Below.trod laidOut (by kernel_rfl) (of_decide_eq_true (by kernel_rfl)) h1 bel (places_lt h1)) (trodAll_cons_mk (Below.trod laidOut (by kernel_rfl) (of_decide_eq_true (by kernel_rfl)) h2 bel (places_lt h2)) trodAll_mk0))), rfl, bel.frame _, fun h => by cases h⟩

theorem over : Rows.ratFieldRow.holds Try.pinned (OpenSpec.ofChange Rows.ratFieldSpec) :=
  OpenClaim.holds_of_wide 4 Try.f4 rfl rfl rfl rfl rfl rfl rfl ⟨rfl, rfl, rfl, rfl, rfl⟩ rfl rfl rfl rfl rfl (by kernel_rfl) Try.func4 (by kernel_rfl)
    (of_decide_eq_true (by kernel_rfl)) (by unfold Func.isWrapper; first | (rw [if_pos (by decide +kernel)]; kernel_rfl) | (rw [if_neg (by decide +kernel)]; exact ⟨rfl, rfl⟩))
    (fun os started H enc _ => lifted os started H enc)

theorem proved : Rows.RatFieldSaid := over

end Go.Proofs.Ytohciicocaoagaa.lawRatField
