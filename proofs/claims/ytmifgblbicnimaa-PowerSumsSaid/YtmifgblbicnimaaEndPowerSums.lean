/- Of any two rational numbers of few limbs and any two small exponents: powers by a sum, by a product of exponents, of a product. No condition. -/
import Derived.Test.YtmifgblbicnimaaM9
import Derived.ChangeMaps5
/- How an argument that is an array of two int8 is opened. No condition. -/
namespace Go.Proofs.Ytmifgblbicnimaa
open Go.ChangeShapes Go.WideShapes Go.ChangeAt Go.RowKit Limb
set_option linter.unusedVariables false

theorem cells_i8 : Try.prog.cellsOf 39 = 1 := by kernel_rfl
theorem cells_pair8 : Try.prog.cellsOf 40 = 2 := by kernel_rfl

set_option maxRecDepth 4000 in
theorem open_pair8 {H : Type} {enc : TypeId × Value → H} {W : World} {r : Reach} {b0 base : Nat} {sp : Nat → Bool} {held : Bool} {v : Value} {d : DataW H} {p : List MemPlace}
    (hok : Value.okWide Try.prog W r b0 40 v) (h : DataW.Trod enc Try.prog W base sp held 40 v d p) :
    ∃ a b : Int, v = .agg #[.int .i8 a, .int .i8 b] ∧ (Lit.int .i8 a).wf = true ∧ (Lit.int .i8 b).wf = true := by
  simp only [Value.okWide, Try.underlying40] at hok
  obtain ⟨cs, rfl, hsz, _⟩ := hok
  rw [cells_pair8] at hsz
  obtain ⟨fuel, hf⟩ := h
  obtain ⟨xs, m, rfl, hx, hlen, hxl, hel⟩ := DataW.trod_array Try.underlying40 hf
  have h0 := hel 0 (by decide)
  have h1 := hel 1 (by decide)
  rw [List.getElem?_eq_getElem (by omega), cells_i8] at h0 h1
  obtain ⟨a, ha, _, wa⟩ := DataW.trod_int Try.underlying39 h0
  obtain ⟨b, hb, _, wb⟩ := DataW.trod_int Try.underlying39 h1
  refine ⟨a, b, ?_, wa, wb⟩
  have e : cs.toList = [.int .i8 a, .int .i8 b] := by
    have h2 : cs.toList.length = 2 := by simpa using hsz
    match hcs : cs.toList, h2 with
    | [c0, c1], _ =>
      simp [Value.cells, hcs] at ha hb
      rw [ha, hb]
  congr 1
  rw [← Array.toArray_toList (xs := cs), e]

theorem wf_i8 {n : Int} (h : (Lit.int .i8 n).wf = true) : -128 ≤ n ∧ n ≤ 127 := by
  have h1 : IntKind.i8.min = -128 := rfl
  have h2 : IntKind.i8.max = 127 := rfl
  simp only [Lit.wf, Bool.and_eq_true, decide_eq_true_eq] at h
  omega

end Go.Proofs.Ytmifgblbicnimaa

/- Of any two rational numbers of few limbs and any two small exponents: powers by a sum, by a product of exponents, of a product. No condition. -/
namespace Go.Proofs.Ytmifgblbicnimaa.lawPowerSums
open Go.ChangeShapes Go.WideShapes Go.ChangeAt Go.RowKit Limb
set_option linter.unusedVariables false

theorem tmod_small (v : Int) : (v.tmod 6).natAbs ≤ 5 := by
  rw [Int.natAbs_tmod]
  have := Nat.mod_lt v.natAbs (show (6 : Int).natAbs > 0 by decide)
  omega
theorem nought_same {w : World} {s s' : Bool} {A B A' B' : Option Addr} {n c m d n' c' m' d' : Nat} {xs ys xs' ys' : List Nat} {q p : Rat} {v : Bool} {L L' : Nat} (h : QQ w s A n c xs B m d ys (some q) L) (h' : QQ w s' A' n' c' xs' B' m' d' ys' (some p) L') (hv : decide (some q = some p) = v) :
    (decide (s = s') && same xs xs' && same ys ys') = v := (keep_read h h').trans hv

set_option maxHeartbeats 4000000 in
set_option maxRecDepth 100000 in
theorem walk (g_a : Bool) (A_a : Option Addr) (n_a c_a : Nat) (xs_a : List Nat) (B_a : Option Addr) (m_a d_a : Nat) (ys_a : List Nat) (g_b : Bool) (A_b : Option Addr) (n_b c_b : Nat) (xs_b : List Nat) (B_b : Option Addr) (m_b d_b : Nat) (ys_b : List Nat) (v_n u_n : Int) (w : World) (i_a : IsN w A_a n_a xs_a) (hc_a : n_a ≤ c_a) (hm_a : c_a ≤ maxLen) (j_a : IsN w B_a m_a ys_a) (kc_a : m_a ≤ d_a) (km_a : d_a ≤ maxLen) (i_b : IsN w A_b n_b xs_b) (hc_b : n_b ≤ c_b) (hm_b : c_b ≤ maxLen) (j_b : IsN w B_b m_b ys_b) (kc_b : m_b ≤ d_b) (km_b : d_b ≤ maxLen) (f_n : (Lit.int .i8 v_n).wf = true) (g_n : (Lit.int .i8 u_n).wf = true) :
    Calls Try.prog 4 #[.agg #[.bool g_a, .slice A_a n_a c_a, .slice B_a m_a d_a], .agg #[.bool g_b, .slice A_b n_b c_b, .slice B_b m_b d_b], .agg #[.int .i8 v_n, .int .i8 u_n]] w fun e w' => e = .returned (.bool true) ∧ Below w.heap.size w w' := by
  obtain ⟨w0_n, w1_n⟩ := wf_i8 f_n
  obtain ⟨w0_u, w1_u⟩ := wf_i8 g_n
  clear f_n g_n
  obtain ⟨K, hK⟩ : ∃ K, v_n.tmod 6 = K := ⟨_, rfl⟩
  obtain ⟨J, hJ⟩ : ∃ J, u_n.tmod 6 = J := ⟨_, rfl⟩
  have HK : RowKit.Hid (K.natAbs ≤ 5) := by show _ ≤ _; rw [← hK]; exact tmod_small _
  have HJ : RowKit.Hid (J.natAbs ≤ 5) := by show _ ≤ _; rw [← hJ]; exact tmod_small _
  have K0 : -5 ≤ K := by have := HK.out; omega
  have K1 : K ≤ 5 := by have := HK.out; omega
  have J0 : -5 ≤ J := by have := HJ.out; omega
  have J1 : J ≤ 5 := by have := HJ.out; omega
  have KL_a : max n_a m_a ≤ 9223372036854775807 := by
    have e : maxLen = 9223372036854775807 := by decide
    omega
  have h_a := QQ.of (s := g_a) i_a hc_a j_a kc_a (Nat.le_max_left n_a m_a) (Nat.le_max_right n_a m_a)
  generalize readQ g_a xs_a ys_a = o_a at h_a
  have KL_b : max n_b m_b ≤ 9223372036854775807 := by
    have e : maxLen = 9223372036854775807 := by decide
    omega
  have h_b := QQ.of (s := g_b) i_b hc_b j_b kc_b (Nat.le_max_left n_b m_b) (Nat.le_max_right n_b m_b)
  generalize readQ g_b xs_b ys_b = o_b at h_b
  have bw := bel_refl w
  have h_ra := row3_new w 27 (.bool g_a) (.slice A_a n_a c_a) (.slice B_a m_a d_a)
  have bn := below_new w (.cells #[Value.bool g_a, Value.slice A_a n_a c_a, Value.slice B_a m_a d_a] 27)
  replace h_a := h_a.below bn
  replace h_b := h_b.below bn
  replace bw := below_two bw bn
  clear bn
  have h_rb := row3_new (w.alloc (.cells #[Value.bool g_a, Value.slice A_a n_a c_a, Value.slice B_a m_a d_a] 27)) 27 (.bool g_b) (.slice A_b n_b c_b) (.slice B_b m_b d_b)
  have bn := below_new (w.alloc (.cells #[Value.bool g_a, Value.slice A_a n_a c_a, Value.slice B_a m_a d_a] 27)) (.cells #[Value.bool g_b, Value.slice A_b n_b c_b, Value.slice B_b m_b d_b] 27)
  replace h_a := h_a.below bn
  replace h_b := h_b.below bn
  replace h_ra := h_ra.below bn
  replace bw := below_two bw bn
  clear bn
  have h_rn := row2_new ((w.alloc (.cells #[Value.bool g_a, Value.slice A_a n_a c_a, Value.slice B_a m_a d_a] 27)).alloc (.cells #[Value.bool g_b, Value.slice A_b n_b c_b, Value.slice B_b m_b d_b] 27)) 40 (.int .i8 v_n) (.int .i8 u_n)
  have bn := below_new ((w.alloc (.cells #[Value.bool g_a, Value.slice A_a n_a c_a, Value.slice B_a m_a d_a] 27)).alloc (.cells #[Value.bool g_b, Value.slice A_b n_b c_b, Value.slice B_b m_b d_b] 27)) (.cells #[Value.int .i8 v_n, Value.int .i8 u_n] 40)
  replace h_a := h_a.below bn
  replace h_b := h_b.below bn
  replace h_ra := h_ra.below bn
  replace h_rb := h_rb.below bn
  replace bw := below_two bw bn
  clear bn
  simp only [World.size_alloc] at h_rb h_rn
  go_enter Try.func4, Try.ntmps4
  go_wp2_with fail
  generalize ((w.alloc (.cells #[Value.bool g_a, Value.slice A_a n_a c_a, Value.slice B_a m_a d_a] 27)).alloc (.cells #[Value.bool g_b, Value.slice A_b n_b c_b, Value.slice B_b m_b d_b] 27)).alloc (.cells #[Value.int .i8 v_n, Value.int .i8 u_n] 40) = wP at *
  obtain ⟨q_n, eg⟩ : ∃ g, g = w.heap.size + 1 + 1 := ⟨_, rfl⟩
  rw [← eg] at h_rn ⊢
  clear eg
  obtain ⟨q_b, eg⟩ : ∃ g, g = w.heap.size + 1 := ⟨_, rfl⟩
  rw [← eg] at h_rb ⊢
  clear eg
  obtain ⟨q_a, eg⟩ : ∃ g, g = w.heap.size := ⟨_, rfl⟩
  rw [← eg] at h_ra ⊢
  clear eg
  cases o_a with
  | none =>
    refine (refGood_c h_a KL_a false rfl).mono ?_
    rintro e w1 ⟨rfl, bn⟩
    replace h_a := h_a.below bn
    replace h_b := h_b.below bn
    replace h_ra := h_ra.below bn
    replace h_rb := h_rb.below bn
    replace h_rn := h_rn.below bn
    replace bw := below_two bw bn
    clear bn
    go_wp2_with fail
    refine (wakes_any _).mono ?_
    rintro e w2 ⟨rfl, bn⟩
    replace h_a := h_a.below bn
    replace h_b := h_b.below bn
    replace h_ra := h_ra.below bn
    replace h_rb := h_rb.below bn
    replace h_rn := h_rn.below bn
    replace bw := below_two bw bn
    clear bn
    go_wp2
    go_ret
    exact ⟨rfl, bw⟩
  | some z_a =>
    refine (refGood_c h_a KL_a true rfl).mono ?_
    rintro e w3 ⟨rfl, bn⟩
    replace h_a := h_a.below bn
    replace h_b := h_b.below bn
    replace h_ra := h_ra.below bn
    replace h_rb := h_rb.below bn
    replace h_rn := h_rn.below bn
    replace bw := below_two bw bn
    clear bn
    have c_b0 := h_rb.c0
    have c_b1 := h_rb.c1
    have c_b2 := h_rb.c2
    go_wp2_with fail
    clear c_b0 c_b1 c_b2
    cases o_b with
    | none =>
      refine (refGood_c h_b KL_b false rfl).mono ?_
      rintro e w4 ⟨rfl, bn⟩
      replace h_a := h_a.below bn
      replace h_b := h_b.below bn
      replace h_ra := h_ra.below bn
      replace h_rb := h_rb.below bn
      replace h_rn := h_rn.below bn
      replace bw := below_two bw bn
      clear bn
      go_wp2_with fail
      refine (wakes_any _).mono ?_
      rintro e w5 ⟨rfl, bn⟩
      replace h_a := h_a.below bn
      replace h_b := h_b.below bn
      replace h_ra := h_ra.below bn
      replace h_rb := h_rb.below bn
      replace h_rn := h_rn.below bn
      replace bw := below_two bw bn
      clear bn
      go_wp2
      go_ret
      exact ⟨rfl, bw⟩
    | some z_b =>
      refine (refGood_c h_b KL_b true rfl).mono ?_
      rintro e w6 ⟨rfl, bn⟩
      replace h_a := h_a.below bn
      replace h_b := h_b.below bn
      replace h_ra := h_ra.below bn
      replace h_rb := h_rb.below bn
      replace h_rn := h_rn.below bn
      replace bw := below_two bw bn
      clear bn
      obtain ⟨t1, t2, t3, t4, L1_a, L2_a, D_a⟩ := qq_told h_a
      clear i_a j_a
      subst t1
      subst t2
      subst t3
      replace h_a := t4
      clear t4
      obtain ⟨t1, t2, t3, t4, L1_b, L2_b, D_b⟩ := qq_told h_b
      clear i_b j_b
      subst t1
      subst t2
      subst t3
      replace h_b := t4
      clear t4
      by_cases l_0 : 2 < n_a
      case pos =>
        have LL : (2 : Int) < n_a := by omega
        clear l_0
        have c_a0 := h_ra.c0
        have c_a1 := h_ra.c1
        have c_a2 := h_ra.c2
        have c_b0 := h_rb.c0
        have c_b1 := h_rb.c1
        have c_b2 := h_rb.c2
        go_wp2_with fail
        clear c_a0 c_a1 c_a2 c_b0 c_b1 c_b2
        refine (wakes_any _).mono ?_
        rintro e w7 ⟨rfl, bn⟩
        replace h_a := h_a.below bn
        replace h_b := h_b.below bn
        replace h_ra := h_ra.below bn
        replace h_rb := h_rb.below bn
        replace h_rn := h_rn.below bn
        replace bw := below_two bw bn
        clear bn
        go_wp2
        go_ret
        exact ⟨rfl, bw⟩
      have LL_0 : (n_a : Int) ≤ 2 := by omega
      clear l_0
      by_cases l_1 : 2 < m_a
      case pos =>
        have LL : (2 : Int) < m_a := by omega
        clear l_1
        have c_a0 := h_ra.c0
        have c_a1 := h_ra.c1
        have c_a2 := h_ra.c2
        have c_b0 := h_rb.c0
        have c_b1 := h_rb.c1
        have c_b2 := h_rb.c2
        go_wp2_with fail
        clear c_a0 c_a1 c_a2 c_b0 c_b1 c_b2
        refine (wakes_any _).mono ?_
        rintro e w8 ⟨rfl, bn⟩
        replace h_a := h_a.below bn
        replace h_b := h_b.below bn
        replace h_ra := h_ra.below bn
        replace h_rb := h_rb.below bn
        replace h_rn := h_rn.below bn
        replace bw := below_two bw bn
        clear bn
        go_wp2
        go_ret
        exact ⟨rfl, bw⟩
      have LL_1 : (m_a : Int) ≤ 2 := by omega
      clear l_1
      by_cases l_2 : 2 < n_b
      case pos =>
        have LL : (2 : Int) < n_b := by omega
        clear l_2
        have c_a0 := h_ra.c0
        have c_a1 := h_ra.c1
        have c_a2 := h_ra.c2
        have c_b0 := h_rb.c0
        have c_b1 := h_rb.c1
        have c_b2 := h_rb.c2
        go_wp2_with fail
        clear c_a0 c_a1 c_a2 c_b0 c_b1 c_b2
        refine (wakes_any _).mono ?_
        rintro e w9 ⟨rfl, bn⟩
        replace h_a := h_a.below bn
        replace h_b := h_b.below bn
        replace h_ra := h_ra.below bn
        replace h_rb := h_rb.below bn
        replace h_rn := h_rn.below bn
        replace bw := below_two bw bn
        clear bn
        go_wp2
        go_ret
        exact ⟨rfl, bw⟩
      have LL_2 : (n_b : Int) ≤ 2 := by omega
      clear l_2
      by_cases l_3 : 2 < m_b
      case pos =>
        have LL : (2 : Int) < m_b := by omega
        clear l_3
        have c_a0 := h_ra.c0
        have c_a1 := h_ra.c1
        have c_a2 := h_ra.c2
        have c_b0 := h_rb.c0
        have c_b1 := h_rb.c1
        have c_b2 := h_rb.c2
        go_wp2_with fail
        clear c_a0 c_a1 c_a2 c_b0 c_b1 c_b2
        refine (wakes_any _).mono ?_
        rintro e w10 ⟨rfl, bn⟩
        replace h_a := h_a.below bn
        replace h_b := h_b.below bn
        replace h_ra := h_ra.below bn
        replace h_rb := h_rb.below bn
        replace h_rn := h_rn.below bn
        replace bw := below_two bw bn
        clear bn
        go_wp2
        go_ret
        exact ⟨rfl, bw⟩
      have LL_3 : (m_b : Int) ≤ 2 := by omega
      clear l_3
      have c_a0 := h_ra.c0
      have c_a1 := h_ra.c1
      have c_a2 := h_ra.c2
      have c_b0 := h_rb.c0
      have c_b1 := h_rb.c1
      have c_b2 := h_rb.c2
      go_wp2
      clear c_a0 c_a1 c_a2 c_b0 c_b1 c_b2
      have c_n0 := h_rn.c0
      have c_n1 := h_rn.c1
      have hv1 : IntKind.i64.wrap v_n = v_n := by rw [IntKind.wrap_i64]; omega
      have hu1 : IntKind.i64.wrap u_n = u_n := by rw [IntKind.wrap_i64]; omega
      go_quiet (fail)
      clear c_n0 c_n1
      have bn := below_drewN (Below.refl w6.heap.size w6) nq
      replace h_a := h_a.below bn
      replace h_b := h_b.below bn
      replace h_ra := h_ra.below bn
      replace h_rb := h_rb.below bn
      replace h_rn := h_rn.below bn
      replace bw := below_two bw bn
      clear bn
      generalize w6.drewN nq = w11 at *
      clear hv1 hu1 hK hJ w0_n w1_n w0_u w1_u
      have B_BDa : RowKit.Hid (Bd z_a 2 2) := D_a.mono (by omega) (by omega)
      have B_BDb : RowKit.Hid (Bd z_b 2 2) := D_b.mono (by omega) (by omega)
      by_cases i0_a : z_a.num = 0
      · skip
        obtain ⟨s_a, hs_a⟩ : ∃ v, cmpQ z_a 0 = v := ⟨_, rfl⟩
        have hn_a := sign_num (q := z_a)
        rw [hs_a] at hn_a
        have hz_a : (s_a == 0) = true := by rw [hn_a]; simpa using i0_a
        have S_a : RowKit.Hid (cmpR (some z_a) (some 0) = s_a) := hs_a
        clear hn_a hs_a
        have c_a0 := h_ra.c0
        have c_a1 := h_ra.c1
        have c_a2 := h_ra.c2
        have c_b0 := h_rb.c0
        have c_b1 := h_rb.c1
        have c_b2 := h_rb.c2
        go_wp2_with fail
        clear c_a0 c_a1 c_a2 c_b0 c_b1 c_b2
        refine (rSign_c h_a (by decide) s_a S_a.out).mono ?_
        rintro e w12 ⟨rfl, bn⟩
        replace h_a := h_a.below bn
        replace h_b := h_b.below bn
        replace h_ra := h_ra.below bn
        replace h_rb := h_rb.below bn
        replace h_rn := h_rn.below bn
        replace bw := below_two bw bn
        clear bn
        by_cases k0 : K < 0
        · skip
          obtain ⟨z_x, F0, F1⟩ := zero_facts i0_a (k := 0) (by decide)
          have F0 : powR (some z_a) 0 = (some z_x, 0) := F0
          have F0 := Lib.hid F0
          have F2 : RowKit.Hid (decide (some z_x = some (0 : Rat)) = false) := by show _ = _; rw [F1]; rfl
          clear F1
          clear i0_a
          have c_a0 := h_ra.c0
          have c_a1 := h_ra.c1
          have c_a2 := h_ra.c2
          go_wp2_with fail
          clear c_a0 c_a1 c_a2
          refine (pOf_c h_a (by decide) 0 _ _ F0.out).mono ?_
          rintro e w13 ⟨A_x, n_x, c_x, B_x, m_x, d_x, rfl, h_x, bn⟩
          replace h_a := h_a.below bn
          replace h_b := h_b.below bn
          replace h_ra := h_ra.below bn
          replace h_rb := h_rb.below bn
          replace h_rn := h_rn.below bn
          replace bw := below_two bw bn
          clear bn
          have h_rx := row3_new w13 27 (.bool (sg (oTop (some z_x)))) (.slice A_x n_x c_x) (.slice B_x m_x d_x)
          have bn := below_new w13 (.cells #[Value.bool (sg (oTop (some z_x))), Value.slice A_x n_x c_x, Value.slice B_x m_x d_x] 27)
          replace h_a := h_a.below bn
          replace h_b := h_b.below bn
          replace h_ra := h_ra.below bn
          replace h_rb := h_rb.below bn
          replace h_rn := h_rn.below bn
          replace h_x := h_x.below bn
          replace bw := below_two bw bn
          clear bn
          go_wp2
          generalize w13.alloc (.cells #[Value.bool (sg (oTop (some z_x))), Value.slice A_x n_x c_x, Value.slice B_x m_x d_x] 27) = w14 at *
          obtain ⟨q_x, eg⟩ : ∃ g, g = w13.heap.size := ⟨_, rfl⟩
          rw [← eg] at h_rx ⊢
          clear eg
          have hg : decide ((0 : Int) < K) = false := by rw [decide_eq_false_iff_not]; omega
          have hz2 : (s_a != 0) = false := by simpa [bne] using hz_a
          generalize w14 = wS at *
          refine region_freeg 18 1 [89, 90, 91, 92, 93, 94, 95, 96, 97, 98, 99, 100, 101, 102, 103, 104, 105, 106] ?aF24 (fun wx => Below wS.heap.size wS wx) (fun k vv wx => match k with
              | 0 => vv = .int .i64 0
              | 1 => vv = .bool true
              | 2 => vv = .bool true
              | 3 => vv = .agg #[.bool (sg (oTop (some z_a))), .slice A_a n_a c_a, .slice B_a m_a d_a]
              | 4 => vv = .int .i64 s_a
              | 5 => vv = .bool false
              | 6 => vv = .bool false
              | 7 => vv = .agg #[.bool (sg (oTop (some z_x))), .slice A_x n_x c_x, .slice B_x m_x d_x]
              | 8 => ∃ (e0 : Option Addr) (e1 : Nat) (e2 : Nat) (e3 : Option Addr) (e4 : Nat) (e5 : Nat), vv = .agg #[.bool (sg (oTop (some 0))), .slice e0 e1 e2, .slice e3 e4 e5] ∧ QT wx e0 e1 e2 e3 e4 e5 (some 0)
              | 9 => vv = .bool false
              | 10 => vv = .int .i64 K
              | 11 => vv = .bool false
              | 12 => vv = .bool true
              | 13 => vv = .bool true
              | 14 => vv = .bool true
              | 15 => vv = .bool true
              | 16 => vv = .bool true
              | _ => vv = .bool true)
            (fun k => false) (by kernel_rfl) ?haF24 rfl (by kernel_rfl) (by kernel_rfl) (fun _ _ _ _ _ h => h) ?hSb24 ?hPb24 ?hS24 ?hop24 ?hfin24
          case haF24 =>
            intro vals
            simp only [fillAll, List.getElem?_cons_zero, List.getElem?_cons_succ, Act.put, List.setIfInBounds_toArray, List.set_cons_zero, List.set_cons_succ]
            exact rfl
          case hSb24 => exact fun wx w2 hb hS => below_two hS hb
          case hPb24 =>
            intro k v wa wb hb h
            match k, h with
            | 0, h => exact h
            | 1, h => exact h
            | 2, h => exact h
            | 3, h => exact h
            | 4, h => exact h
            | 5, h => exact h
            | 6, h => exact h
            | 7, h => exact h
            | 8, ⟨e0, e1, e2, e3, e4, e5, h1, g0⟩ => exact ⟨e0, e1, e2, e3, e4, e5, h1, g0.below hb⟩
            | 9, h => exact h
            | 10, h => exact h
            | 11, h => exact h
            | 12, h => exact h
            | 13, h => exact h
            | 14, h => exact h
            | 15, h => exact h
            | 16, h => exact h
            | _ + 17, h => exact h
          case hS24 => exact (Below.refl _ _).drew
          case hop24 =>
            refine .cons (k := 0) (.plain rfl ?_) (.cons (k := 1) (.plain rfl ?_) (.cons (k := 2) (.plain rfl ?_) (.cons (k := 3) (.yes (fun vals wr hS hd g b e => by cases e; exact hd 2 (by decide +kernel)) ?_) (.cons (k := 4) (.yes (fun vals wr hS hd g b e => by cases e; exact hd 2 (by decide +kernel)) ?_) (.cons (k := 5) (.yes (fun vals wr hS hd g b e => by cases e; exact hd 2 (by decide +kernel)) ?_) (.cons (k := 6) (.yes (fun vals wr hS hd g b e => by cases e; exact hd 2 (by decide +kernel)) ?_) (.cons (k := 7) (.yes (fun vals wr hS hd g b e => by cases e; exact hd 6 (by decide +kernel)) ?_) (.cons (k := 8) (.yes (fun vals wr hS hd g b e => by cases e; exact hd 6 (by decide +kernel)) ?_) (.cons (k := 9) (.yes (fun vals wr hS hd g b e => by cases e; exact hd 6 (by decide +kernel)) ?_) (.cons (k := 10) (.yes (fun vals wr hS hd g b e => by cases e; exact hd 6 (by decide +kernel)) ?_) (.cons (k := 11) (.yes (fun vals wr hS hd g b e => by cases e; exact hd 6 (by decide +kernel)) ?_) (.cons (k := 12) (.yes (fun vals wr hS hd g b e => by cases e; exact hd 6 (by decide +kernel)) ?_) (.cons (k := 13) (.yes (fun vals wr hS hd g b e => by cases e; exact hd 2 (by decide +kernel)) ?_) (.cons (k := 14) (.plain rfl ?_) (.cons (k := 15) (.plain rfl ?_) (.cons (k := 16) (.yes (fun vals wr hS hd g b e => by cases e; exact hd 15 (by decide +kernel)) ?_) (.cons (k := 17) (.plain rfl ?_) (.nil))))))))))))))))))
            all_goals intro vals wr hS hd KC hK
            all_goals (show Oper.wp _ _ _ _ _ _; dsimp only)
            · go_simp
              refine hK _ _ rfl (Below.refl _ _) (by first | rfl | simp) (fun h => by cases h)
            · have d0 : vals 0 = _ := hd 0 (by decide +kernel)
              rw [d0]
              go_simp
              refine hK _ _ rfl (Below.refl _ _) (by first | rfl | simp) (fun h => by cases h)
            · have d1 : vals 1 = _ := hd 1 (by decide +kernel)
              rw [d1]
              go_simp
              refine hK _ _ rfl (Below.refl _ _) (by first | rfl | simp) (fun h => by cases h)
            · have z0 := (h_ra.below hS).c0
              have z1 := (h_ra.below hS).c1
              have z2 := (h_ra.below hS).c2
              go_simp
              refine hK _ _ rfl (Below.refl _ _) (by first | rfl | simp) (fun h => by cases h)
            · have d3 : vals 3 = _ := hd 3 (by decide +kernel)
              rw [d3]
              go_simp
              go_at_call 17
              with_reducible refine (rSign_c (h_a.below hS) (by decide) s_a S_a.out).mono ?_
              rintro e w2 ⟨rfl, bn_r⟩
              refine hK _ _ rfl bn_r rfl (fun h => by cases h)
            · have d4 : vals 4 = _ := hd 4 (by decide +kernel)
              rw [d4]
              go_simp
              refine hK _ _ rfl (Below.refl _ _) (by first | rfl | simp) (fun h => by cases h)
            · have d5 : vals 5 = _ := hd 5 (by decide +kernel)
              rw [d5]
              go_simp
              refine hK _ _ rfl (Below.refl _ _) (by first | rfl | simp) (fun h => by cases h)
            · have z0 := (h_rx.below hS).c0
              have z1 := (h_rx.below hS).c1
              have z2 := (h_rx.below hS).c2
              go_simp
              refine hK _ _ rfl (Below.refl _ _) (by first | rfl | simp) (fun h => by cases h)
            · go_simp
              go_at_call 18
              with_reducible refine (rWhole_is 0 (by decide) (by decide) _ zero_cast _).mono ?_
              rintro e w2 ⟨r0, r1, r2, r3, r4, r5, rfl, f0, bn_r⟩
              refine hK _ _ rfl bn_r ⟨_, _, _, _, _, _, rfl, f0⟩ (fun h => by cases h)
            · have d7 : vals 7 = _ := hd 7 (by decide +kernel)
              obtain ⟨A_8_0, n_8_1, n_8_2, A_8_3, n_8_4, n_8_5, d8, h_8_0⟩ := hd 8 (by decide +kernel)
              rw [d7, d8]
              go_simp
              go_at_call 15
              with_reducible refine (keepRat_c (h_x.below hS) h_8_0 (by decide) (by decide) false (nought_same (h_x.below hS) h_8_0 F2.out)).mono ?_
              rintro e w2 ⟨rfl, bn_r⟩
              refine hK _ _ rfl bn_r rfl (fun h => by cases h)
            · go_simp
              refine hK _ _ rfl (Below.refl _ _) (by first | rfl | simp) (fun h => by cases h)
            · have d10 : vals 10 = _ := hd 10 (by decide +kernel)
              rw [d10]
              go_simp
              refine hK _ _ rfl (Below.refl _ _) (by first | rfl | simp) (fun h => by cases h)
            · have d9 : vals 9 = _ := hd 9 (by decide +kernel)
              have d11 : vals 11 = _ := hd 11 (by decide +kernel)
              rw [d9, d11]
              go_simp
              refine hK _ _ rfl (Below.refl _ _) (by first | rfl | simp) (fun h => by cases h)
            · have d6 : vals 6 = _ := hd 6 (by decide +kernel)
              have d12 : vals 12 = _ := hd 12 (by decide +kernel)
              rw [d6, d12]
              go_simp
              refine hK _ _ rfl (Below.refl _ _) (by first | rfl | simp) (fun h => by cases h)
            · have d2 : vals 2 = _ := hd 2 (by decide +kernel)
              have d13 : vals 13 = _ := hd 13 (by decide +kernel)
              rw [d2, d13]
              go_simp
              refine hK _ _ rfl (Below.refl _ _) (by first | rfl | simp) (fun h => by cases h)
            · have d14 : vals 14 = _ := hd 14 (by decide +kernel)
              rw [d14]
              go_simp
              refine hK _ _ rfl (Below.refl _ _) (by first | rfl | simp) (fun h => by cases h)
            · go_simp
              go_at_call 9
              with_reducible refine (wakes_any _).mono ?_
              rintro e w2 ⟨rfl, bn_r⟩
              refine hK _ _ rfl bn_r rfl (fun h => by cases h)
            · have d15 : vals 15 = _ := hd 15 (by decide +kernel)
              have d16 : vals 16 = _ := hd 16 (by decide +kernel)
              rw [d15, d16]
              go_simp
              refine hK _ _ rfl (Below.refl _ _) (by first | rfl | simp) (fun h => by cases h)
          case hfin24 =>
            intro vals wr hS hP hne
            have ez_17 : vals 17 = _ := hP 17 (by decide)
            have HB := Lib.hid (below_two bw hS)
            try dsimp only
            rw [ez_17]
            refine wpAny_ready (rs := [18]) (by kernel_rfl) (by simp) (AllReady.cons rfl (fun KC hK => ?_) AllReady.nil)
            go_simp
            refine hK _ _ ?_
            clear hK KC
            refine wpAny_done (by kernel_rfl) ?_ _
            go_wp2
            go_ret
            exact ⟨rfl, HB.out⟩
        · by_cases k1 : K = 0
          · skip
            subst k1
            obtain ⟨z_x, F0, F1⟩ := zero_facts i0_a (k := 0) (by decide)
            have F0 : powR (some z_a) 0 = (some z_x, 0) := F0
            have F0 := Lib.hid F0
            have F2 : RowKit.Hid (decide (some z_x = some (0 : Rat)) = false) := by show _ = _; rw [F1]; rfl
            clear F1
            clear i0_a
            have c_a0 := h_ra.c0
            have c_a1 := h_ra.c1
            have c_a2 := h_ra.c2
            go_wp2_with fail
            clear c_a0 c_a1 c_a2
            refine (pOf_c h_a (by decide) 0 _ _ F0.out).mono ?_
            rintro e w15 ⟨A_x, n_x, c_x, B_x, m_x, d_x, rfl, h_x, bn⟩
            replace h_a := h_a.below bn
            replace h_b := h_b.below bn
            replace h_ra := h_ra.below bn
            replace h_rb := h_rb.below bn
            replace h_rn := h_rn.below bn
            replace bw := below_two bw bn
            clear bn
            have h_rx := row3_new w15 27 (.bool (sg (oTop (some z_x)))) (.slice A_x n_x c_x) (.slice B_x m_x d_x)
            have bn := below_new w15 (.cells #[Value.bool (sg (oTop (some z_x))), Value.slice A_x n_x c_x, Value.slice B_x m_x d_x] 27)
            replace h_a := h_a.below bn
            replace h_b := h_b.below bn
            replace h_ra := h_ra.below bn
            replace h_rb := h_rb.below bn
            replace h_rn := h_rn.below bn
            replace h_x := h_x.below bn
            replace bw := below_two bw bn
            clear bn
            go_wp2
            generalize w15.alloc (.cells #[Value.bool (sg (oTop (some z_x))), Value.slice A_x n_x c_x, Value.slice B_x m_x d_x] 27) = w16 at *
            obtain ⟨q_x, eg⟩ : ∃ g, g = w15.heap.size := ⟨_, rfl⟩
            rw [← eg] at h_rx ⊢
            clear eg
            have hz2 : (s_a != 0) = false := by simpa [bne] using hz_a
            generalize w16 = wS at *
            refine region_freeg 18 1 [89, 90, 91, 92, 93, 94, 95, 96, 97, 98, 99, 100, 101, 102, 103, 104, 105, 106] ?aF25 (fun wx => Below wS.heap.size wS wx) (fun k vv wx => match k with
                | 0 => vv = .int .i64 0
                | 1 => vv = .bool true
                | 2 => vv = .bool true
                | 3 => vv = .agg #[.bool (sg (oTop (some z_a))), .slice A_a n_a c_a, .slice B_a m_a d_a]
                | 4 => vv = .int .i64 s_a
                | 5 => vv = .bool false
                | 6 => vv = .bool false
                | 7 => vv = .agg #[.bool (sg (oTop (some z_x))), .slice A_x n_x c_x, .slice B_x m_x d_x]
                | 8 => ∃ (e0 : Option Addr) (e1 : Nat) (e2 : Nat) (e3 : Option Addr) (e4 : Nat) (e5 : Nat), vv = .agg #[.bool (sg (oTop (some 0))), .slice e0 e1 e2, .slice e3 e4 e5] ∧ QT wx e0 e1 e2 e3 e4 e5 (some 0)
                | 9 => vv = .bool false
                | 10 => vv = .int .i64 0
                | 11 => vv = .bool false
                | 12 => vv = .bool true
                | 13 => vv = .bool true
                | 14 => vv = .bool true
                | 15 => vv = .bool true
                | 16 => vv = .bool true
                | _ => vv = .bool true)
              (fun k => false) (by kernel_rfl) ?haF25 rfl (by kernel_rfl) (by kernel_rfl) (fun _ _ _ _ _ h => h) ?hSb25 ?hPb25 ?hS25 ?hop25 ?hfin25
            case haF25 =>
              intro vals
              simp only [fillAll, List.getElem?_cons_zero, List.getElem?_cons_succ, Act.put, List.setIfInBounds_toArray, List.set_cons_zero, List.set_cons_succ]
              exact rfl
            case hSb25 => exact fun wx w2 hb hS => below_two hS hb
            case hPb25 =>
              intro k v wa wb hb h
              match k, h with
              | 0, h => exact h
              | 1, h => exact h
              | 2, h => exact h
              | 3, h => exact h
              | 4, h => exact h
              | 5, h => exact h
              | 6, h => exact h
              | 7, h => exact h
              | 8, ⟨e0, e1, e2, e3, e4, e5, h1, g0⟩ => exact ⟨e0, e1, e2, e3, e4, e5, h1, g0.below hb⟩
              | 9, h => exact h
              | 10, h => exact h
              | 11, h => exact h
              | 12, h => exact h
              | 13, h => exact h
              | 14, h => exact h
              | 15, h => exact h
              | 16, h => exact h
              | _ + 17, h => exact h
            case hS25 => exact (Below.refl _ _).drew
            case hop25 =>
              refine .cons (k := 0) (.plain rfl ?_) (.cons (k := 1) (.plain rfl ?_) (.cons (k := 2) (.plain rfl ?_) (.cons (k := 3) (.yes (fun vals wr hS hd g b e => by cases e; exact hd 2 (by decide +kernel)) ?_) (.cons (k := 4) (.yes (fun vals wr hS hd g b e => by cases e; exact hd 2 (by decide +kernel)) ?_) (.cons (k := 5) (.yes (fun vals wr hS hd g b e => by cases e; exact hd 2 (by decide +kernel)) ?_) (.cons (k := 6) (.yes (fun vals wr hS hd g b e => by cases e; exact hd 2 (by decide +kernel)) ?_) (.cons (k := 7) (.yes (fun vals wr hS hd g b e => by cases e; exact hd 6 (by decide +kernel)) ?_) (.cons (k := 8) (.yes (fun vals wr hS hd g b e => by cases e; exact hd 6 (by decide +kernel)) ?_) (.cons (k := 9) (.yes (fun vals wr hS hd g b e => by cases e; exact hd 6 (by decide +kernel)) ?_) (.cons (k := 10) (.yes (fun vals wr hS hd g b e => by cases e; exact hd 6 (by decide +kernel)) ?_) (.cons (k := 11) (.yes (fun vals wr hS hd g b e => by cases e; exact hd 6 (by decide +kernel)) ?_) (.cons (k := 12) (.yes (fun vals wr hS hd g b e => by cases e; exact hd 6 (by decide +kernel)) ?_) (.cons (k := 13) (.yes (fun vals wr hS hd g b e => by cases e; exact hd 2 (by decide +kernel)) ?_) (.cons (k := 14) (.plain rfl ?_) (.cons (k := 15) (.plain rfl ?_) (.cons (k := 16) (.yes (fun vals wr hS hd g b e => by cases e; exact hd 15 (by decide +kernel)) ?_) (.cons (k := 17) (.plain rfl ?_) (.nil))))))))))))))))))
              all_goals intro vals wr hS hd KC hK
              all_goals (show Oper.wp _ _ _ _ _ _; dsimp only)
              · go_simp
                refine hK _ _ rfl (Below.refl _ _) (by first | rfl | simp) (fun h => by cases h)
              · have d0 : vals 0 = _ := hd 0 (by decide +kernel)
                rw [d0]
                go_simp
                refine hK _ _ rfl (Below.refl _ _) (by first | rfl | simp) (fun h => by cases h)
              · have d1 : vals 1 = _ := hd 1 (by decide +kernel)
                rw [d1]
                go_simp
                refine hK _ _ rfl (Below.refl _ _) (by first | rfl | simp) (fun h => by cases h)
              · have z0 := (h_ra.below hS).c0
                have z1 := (h_ra.below hS).c1
                have z2 := (h_ra.below hS).c2
                go_simp
                refine hK _ _ rfl (Below.refl _ _) (by first | rfl | simp) (fun h => by cases h)
              · have d3 : vals 3 = _ := hd 3 (by decide +kernel)
                rw [d3]
                go_simp
                go_at_call 17
                with_reducible refine (rSign_c (h_a.below hS) (by decide) s_a S_a.out).mono ?_
                rintro e w2 ⟨rfl, bn_r⟩
                refine hK _ _ rfl bn_r rfl (fun h => by cases h)
              · have d4 : vals 4 = _ := hd 4 (by decide +kernel)
                rw [d4]
                go_simp
                refine hK _ _ rfl (Below.refl _ _) (by first | rfl | simp) (fun h => by cases h)
              · have d5 : vals 5 = _ := hd 5 (by decide +kernel)
                rw [d5]
                go_simp
                refine hK _ _ rfl (Below.refl _ _) (by first | rfl | simp) (fun h => by cases h)
              · have z0 := (h_rx.below hS).c0
                have z1 := (h_rx.below hS).c1
                have z2 := (h_rx.below hS).c2
                go_simp
                refine hK _ _ rfl (Below.refl _ _) (by first | rfl | simp) (fun h => by cases h)
              · go_simp
                go_at_call 18
                with_reducible refine (rWhole_is 0 (by decide) (by decide) _ zero_cast _).mono ?_
                rintro e w2 ⟨r0, r1, r2, r3, r4, r5, rfl, f0, bn_r⟩
                refine hK _ _ rfl bn_r ⟨_, _, _, _, _, _, rfl, f0⟩ (fun h => by cases h)
              · have d7 : vals 7 = _ := hd 7 (by decide +kernel)
                obtain ⟨A_8_0, n_8_1, n_8_2, A_8_3, n_8_4, n_8_5, d8, h_8_0⟩ := hd 8 (by decide +kernel)
                rw [d7, d8]
                go_simp
                go_at_call 15
                with_reducible refine (keepRat_c (h_x.below hS) h_8_0 (by decide) (by decide) false (nought_same (h_x.below hS) h_8_0 F2.out)).mono ?_
                rintro e w2 ⟨rfl, bn_r⟩
                refine hK _ _ rfl bn_r rfl (fun h => by cases h)
              · go_simp
                refine hK _ _ rfl (Below.refl _ _) (by first | rfl | simp) (fun h => by cases h)
              · have d10 : vals 10 = _ := hd 10 (by decide +kernel)
                rw [d10]
                go_simp
                refine hK _ _ rfl (Below.refl _ _) (by first | rfl | simp) (fun h => by cases h)
              · have d9 : vals 9 = _ := hd 9 (by decide +kernel)
                have d11 : vals 11 = _ := hd 11 (by decide +kernel)
                rw [d9, d11]
                go_simp
                refine hK _ _ rfl (Below.refl _ _) (by first | rfl | simp) (fun h => by cases h)
              · have d6 : vals 6 = _ := hd 6 (by decide +kernel)
                have d12 : vals 12 = _ := hd 12 (by decide +kernel)
                rw [d6, d12]
                go_simp
                refine hK _ _ rfl (Below.refl _ _) (by first | rfl | simp) (fun h => by cases h)
              · have d2 : vals 2 = _ := hd 2 (by decide +kernel)
                have d13 : vals 13 = _ := hd 13 (by decide +kernel)
                rw [d2, d13]
                go_simp
                refine hK _ _ rfl (Below.refl _ _) (by first | rfl | simp) (fun h => by cases h)
              · have d14 : vals 14 = _ := hd 14 (by decide +kernel)
                rw [d14]
                go_simp
                refine hK _ _ rfl (Below.refl _ _) (by first | rfl | simp) (fun h => by cases h)
              · go_simp
                go_at_call 9
                with_reducible refine (wakes_any _).mono ?_
                rintro e w2 ⟨rfl, bn_r⟩
                refine hK _ _ rfl bn_r rfl (fun h => by cases h)
              · have d15 : vals 15 = _ := hd 15 (by decide +kernel)
                have d16 : vals 16 = _ := hd 16 (by decide +kernel)
                rw [d15, d16]
                go_simp
                refine hK _ _ rfl (Below.refl _ _) (by first | rfl | simp) (fun h => by cases h)
            case hfin25 =>
              intro vals wr hS hP hne
              have ez_17 : vals 17 = _ := hP 17 (by decide)
              have HB := Lib.hid (below_two bw hS)
              try dsimp only
              rw [ez_17]
              refine wpAny_ready (rs := [18]) (by kernel_rfl) (by simp) (AllReady.cons rfl (fun KC hK => ?_) AllReady.nil)
              go_simp
              refine hK _ _ ?_
              clear hK KC
              refine wpAny_done (by kernel_rfl) ?_ _
              go_wp2
              go_ret
              exact ⟨rfl, HB.out⟩
          · skip
            obtain ⟨N, hN⟩ : ∃ N : Nat, K = (N : Int) := ⟨K.toNat, by omega⟩
            subst hN
            have n0 : (0 : Int) < (N : Int) := by omega
            obtain ⟨z_x, F0, F1⟩ := zero_facts i0_a (k := N) (by omega)
            have F0 : powR (some z_a) (N : Int) = (some z_x, 0) := F0
            have F0 := Lib.hid F0
            have F2 : RowKit.Hid (decide (some z_x = some (0 : Rat)) = true) := by show _ = _; rw [F1]; rw [decide_eq_true_eq]; omega
            clear F1
            clear i0_a
            have c_a0 := h_ra.c0
            have c_a1 := h_ra.c1
            have c_a2 := h_ra.c2
            go_wp2_with fail
            clear c_a0 c_a1 c_a2
            refine (pOf_c h_a (by decide) (N : Int) _ _ F0.out).mono ?_
            rintro e w17 ⟨A_x, n_x, c_x, B_x, m_x, d_x, rfl, h_x, bn⟩
            replace h_a := h_a.below bn
            replace h_b := h_b.below bn
            replace h_ra := h_ra.below bn
            replace h_rb := h_rb.below bn
            replace h_rn := h_rn.below bn
            replace bw := below_two bw bn
            clear bn
            have h_rx := row3_new w17 27 (.bool (sg (oTop (some z_x)))) (.slice A_x n_x c_x) (.slice B_x m_x d_x)
            have bn := below_new w17 (.cells #[Value.bool (sg (oTop (some z_x))), Value.slice A_x n_x c_x, Value.slice B_x m_x d_x] 27)
            replace h_a := h_a.below bn
            replace h_b := h_b.below bn
            replace h_ra := h_ra.below bn
            replace h_rb := h_rb.below bn
            replace h_rn := h_rn.below bn
            replace h_x := h_x.below bn
            replace bw := below_two bw bn
            clear bn
            go_wp2
            generalize w17.alloc (.cells #[Value.bool (sg (oTop (some z_x))), Value.slice A_x n_x c_x, Value.slice B_x m_x d_x] 27) = w18 at *
            obtain ⟨q_x, eg⟩ : ∃ g, g = w17.heap.size := ⟨_, rfl⟩
            rw [← eg] at h_rx ⊢
            clear eg
            have hg2 : decide (0 < N) = true := by rw [decide_eq_true_eq]; omega
            have hg : decide ((0 : Int) < (N : Int)) = true := by rw [decide_eq_true_eq]; omega
            have hz2 : (s_a != 0) = false := by simpa [bne] using hz_a
            generalize w18 = wS at *
            refine region_freeg 18 1 [89, 90, 91, 92, 93, 94, 95, 96, 97, 98, 99, 100, 101, 102, 103, 104, 105, 106] ?aF26 (fun wx => Below wS.heap.size wS wx) (fun k vv wx => match k with
                | 0 => vv = .int .i64 0
                | 1 => vv = .bool true
                | 2 => vv = .bool true
                | 3 => vv = .agg #[.bool (sg (oTop (some z_a))), .slice A_a n_a c_a, .slice B_a m_a d_a]
                | 4 => vv = .int .i64 s_a
                | 5 => vv = .bool false
                | 6 => vv = .bool false
                | 7 => vv = .agg #[.bool (sg (oTop (some z_x))), .slice A_x n_x c_x, .slice B_x m_x d_x]
                | 8 => ∃ (e0 : Option Addr) (e1 : Nat) (e2 : Nat) (e3 : Option Addr) (e4 : Nat) (e5 : Nat), vv = .agg #[.bool (sg (oTop (some 0))), .slice e0 e1 e2, .slice e3 e4 e5] ∧ QT wx e0 e1 e2 e3 e4 e5 (some 0)
                | 9 => vv = .bool true
                | 10 => vv = .int .i64 (N : Int)
                | 11 => vv = .bool true
                | 12 => vv = .bool true
                | 13 => vv = .bool true
                | 14 => vv = .bool true
                | 15 => vv = .bool true
                | 16 => vv = .bool true
                | _ => vv = .bool true)
              (fun k => false) (by kernel_rfl) ?haF26 rfl (by kernel_rfl) (by kernel_rfl) (fun _ _ _ _ _ h => h) ?hSb26 ?hPb26 ?hS26 ?hop26 ?hfin26
            case haF26 =>
              intro vals
              simp only [fillAll, List.getElem?_cons_zero, List.getElem?_cons_succ, Act.put, List.setIfInBounds_toArray, List.set_cons_zero, List.set_cons_succ]
              exact rfl
            case hSb26 => exact fun wx w2 hb hS => below_two hS hb
            case hPb26 =>
              intro k v wa wb hb h
              match k, h with
              | 0, h => exact h
              | 1, h => exact h
              | 2, h => exact h
              | 3, h => exact h
              | 4, h => exact h
              | 5, h => exact h
              | 6, h => exact h
              | 7, h => exact h
              | 8, ⟨e0, e1, e2, e3, e4, e5, h1, g0⟩ => exact ⟨e0, e1, e2, e3, e4, e5, h1, g0.below hb⟩
              | 9, h => exact h
              | 10, h => exact h
              | 11, h => exact h
              | 12, h => exact h
              | 13, h => exact h
              | 14, h => exact h
              | 15, h => exact h
              | 16, h => exact h
              | _ + 17, h => exact h
            case hS26 => exact (Below.refl _ _).drew
            case hop26 =>
              refine .cons (k := 0) (.plain rfl ?_) (.cons (k := 1) (.plain rfl ?_) (.cons (k := 2) (.plain rfl ?_) (.cons (k := 3) (.yes (fun vals wr hS hd g b e => by cases e; exact hd 2 (by decide +kernel)) ?_) (.cons (k := 4) (.yes (fun vals wr hS hd g b e => by cases e; exact hd 2 (by decide +kernel)) ?_) (.cons (k := 5) (.yes (fun vals wr hS hd g b e => by cases e; exact hd 2 (by decide +kernel)) ?_) (.cons (k := 6) (.yes (fun vals wr hS hd g b e => by cases e; exact hd 2 (by decide +kernel)) ?_) (.cons (k := 7) (.yes (fun vals wr hS hd g b e => by cases e; exact hd 6 (by decide +kernel)) ?_) (.cons (k := 8) (.yes (fun vals wr hS hd g b e => by cases e; exact hd 6 (by decide +kernel)) ?_) (.cons (k := 9) (.yes (fun vals wr hS hd g b e => by cases e; exact hd 6 (by decide +kernel)) ?_) (.cons (k := 10) (.yes (fun vals wr hS hd g b e => by cases e; exact hd 6 (by decide +kernel)) ?_) (.cons (k := 11) (.yes (fun vals wr hS hd g b e => by cases e; exact hd 6 (by decide +kernel)) ?_) (.cons (k := 12) (.yes (fun vals wr hS hd g b e => by cases e; exact hd 6 (by decide +kernel)) ?_) (.cons (k := 13) (.yes (fun vals wr hS hd g b e => by cases e; exact hd 2 (by decide +kernel)) ?_) (.cons (k := 14) (.plain rfl ?_) (.cons (k := 15) (.plain rfl ?_) (.cons (k := 16) (.yes (fun vals wr hS hd g b e => by cases e; exact hd 15 (by decide +kernel)) ?_) (.cons (k := 17) (.plain rfl ?_) (.nil))))))))))))))))))
              all_goals intro vals wr hS hd KC hK
              all_goals (show Oper.wp _ _ _ _ _ _; dsimp only)
              · go_simp
                refine hK _ _ rfl (Below.refl _ _) (by first | rfl | simp) (fun h => by cases h)
              · have d0 : vals 0 = _ := hd 0 (by decide +kernel)
                rw [d0]
                go_simp
                refine hK _ _ rfl (Below.refl _ _) (by first | rfl | simp) (fun h => by cases h)
              · have d1 : vals 1 = _ := hd 1 (by decide +kernel)
                rw [d1]
                go_simp
                refine hK _ _ rfl (Below.refl _ _) (by first | rfl | simp) (fun h => by cases h)
              · have z0 := (h_ra.below hS).c0
                have z1 := (h_ra.below hS).c1
                have z2 := (h_ra.below hS).c2
                go_simp
                refine hK _ _ rfl (Below.refl _ _) (by first | rfl | simp) (fun h => by cases h)
              · have d3 : vals 3 = _ := hd 3 (by decide +kernel)
                rw [d3]
                go_simp
                go_at_call 17
                with_reducible refine (rSign_c (h_a.below hS) (by decide) s_a S_a.out).mono ?_
                rintro e w2 ⟨rfl, bn_r⟩
                refine hK _ _ rfl bn_r rfl (fun h => by cases h)
              · have d4 : vals 4 = _ := hd 4 (by decide +kernel)
                rw [d4]
                go_simp
                refine hK _ _ rfl (Below.refl _ _) (by first | rfl | simp) (fun h => by cases h)
              · have d5 : vals 5 = _ := hd 5 (by decide +kernel)
                rw [d5]
                go_simp
                refine hK _ _ rfl (Below.refl _ _) (by first | rfl | simp) (fun h => by cases h)
              · have z0 := (h_rx.below hS).c0
                have z1 := (h_rx.below hS).c1
                have z2 := (h_rx.below hS).c2
                go_simp
                refine hK _ _ rfl (Below.refl _ _) (by first | rfl | simp) (fun h => by cases h)
              · go_simp
                go_at_call 18
                with_reducible refine (rWhole_is 0 (by decide) (by decide) _ zero_cast _).mono ?_
                rintro e w2 ⟨r0, r1, r2, r3, r4, r5, rfl, f0, bn_r⟩
                refine hK _ _ rfl bn_r ⟨_, _, _, _, _, _, rfl, f0⟩ (fun h => by cases h)
              · have d7 : vals 7 = _ := hd 7 (by decide +kernel)
                obtain ⟨A_8_0, n_8_1, n_8_2, A_8_3, n_8_4, n_8_5, d8, h_8_0⟩ := hd 8 (by decide +kernel)
                rw [d7, d8]
                go_simp
                go_at_call 15
                with_reducible refine (keepRat_c (h_x.below hS) h_8_0 (by decide) (by decide) true (nought_same (h_x.below hS) h_8_0 F2.out)).mono ?_
                rintro e w2 ⟨rfl, bn_r⟩
                refine hK _ _ rfl bn_r rfl (fun h => by cases h)
              · go_simp
                refine hK _ _ rfl (Below.refl _ _) (by first | rfl | simp) (fun h => by cases h)
              · have d10 : vals 10 = _ := hd 10 (by decide +kernel)
                rw [d10]
                go_simp
                refine hK _ _ rfl (Below.refl _ _) (by first | rfl | simp) (fun h => by cases h)
              · have d9 : vals 9 = _ := hd 9 (by decide +kernel)
                have d11 : vals 11 = _ := hd 11 (by decide +kernel)
                rw [d9, d11]
                go_simp
                refine hK _ _ rfl (Below.refl _ _) (by first | rfl | simp) (fun h => by cases h)
              · have d6 : vals 6 = _ := hd 6 (by decide +kernel)
                have d12 : vals 12 = _ := hd 12 (by decide +kernel)
                rw [d6, d12]
                go_simp
                refine hK _ _ rfl (Below.refl _ _) (by first | rfl | simp) (fun h => by cases h)
              · have d2 : vals 2 = _ := hd 2 (by decide +kernel)
                have d13 : vals 13 = _ := hd 13 (by decide +kernel)
                rw [d2, d13]
                go_simp
                refine hK _ _ rfl (Below.refl _ _) (by first | rfl | simp) (fun h => by cases h)
              · have d14 : vals 14 = _ := hd 14 (by decide +kernel)
                rw [d14]
                go_simp
                refine hK _ _ rfl (Below.refl _ _) (by first | rfl | simp) (fun h => by cases h)
              · go_simp
                go_at_call 9
                with_reducible refine (wakes_any _).mono ?_
                rintro e w2 ⟨rfl, bn_r⟩
                refine hK _ _ rfl bn_r rfl (fun h => by cases h)
              · have d15 : vals 15 = _ := hd 15 (by decide +kernel)
                have d16 : vals 16 = _ := hd 16 (by decide +kernel)
                rw [d15, d16]
                go_simp
                refine hK _ _ rfl (Below.refl _ _) (by first | rfl | simp) (fun h => by cases h)
            case hfin26 =>
              intro vals wr hS hP hne
              have ez_17 : vals 17 = _ := hP 17 (by decide)
              have HB := Lib.hid (below_two bw hS)
              try dsimp only
              rw [ez_17]
              refine wpAny_ready (rs := [18]) (by kernel_rfl) (by simp) (AllReady.cons rfl (fun KC hK => ?_) AllReady.nil)
              go_simp
              refine hK _ _ ?_
              clear hK KC
              refine wpAny_done (by kernel_rfl) ?_ _
              go_wp2
              go_ret
              exact ⟨rfl, HB.out⟩
      · by_cases i0_b : z_b.num = 0
        · skip
          obtain ⟨s_a, hs_a⟩ : ∃ v, cmpQ z_a 0 = v := ⟨_, rfl⟩
          have hn_a := sign_num (q := z_a)
          rw [hs_a] at hn_a
          have hz_a : (s_a == 0) = false := by rw [hn_a]; simpa using i0_a
          have S_a : RowKit.Hid (cmpR (some z_a) (some 0) = s_a) := hs_a
          clear hn_a hs_a
          obtain ⟨s_b, hs_b⟩ : ∃ v, cmpQ z_b 0 = v := ⟨_, rfl⟩
          have hn_b := sign_num (q := z_b)
          rw [hs_b] at hn_b
          have hz_b : (s_b == 0) = true := by rw [hn_b]; simpa using i0_b
          have S_b : RowKit.Hid (cmpR (some z_b) (some 0) = s_b) := hs_b
          clear hn_b hs_b
          have c_a0 := h_ra.c0
          have c_a1 := h_ra.c1
          have c_a2 := h_ra.c2
          have c_b0 := h_rb.c0
          have c_b1 := h_rb.c1
          have c_b2 := h_rb.c2
          go_wp2_with fail
          clear c_a0 c_a1 c_a2 c_b0 c_b1 c_b2
          refine (rSign_c h_a (by decide) s_a S_a.out).mono ?_
          rintro e w19 ⟨rfl, bn⟩
          replace h_a := h_a.below bn
          replace h_b := h_b.below bn
          replace h_ra := h_ra.below bn
          replace h_rb := h_rb.below bn
          replace h_rn := h_rn.below bn
          replace bw := below_two bw bn
          clear bn
          have c_a0 := h_ra.c0
          have c_a1 := h_ra.c1
          have c_a2 := h_ra.c2
          have c_b0 := h_rb.c0
          have c_b1 := h_rb.c1
          have c_b2 := h_rb.c2
          go_wp2_with fail
          clear c_a0 c_a1 c_a2 c_b0 c_b1 c_b2
          refine (rSign_c h_b (by decide) s_b S_b.out).mono ?_
          rintro e w20 ⟨rfl, bn⟩
          replace h_a := h_a.below bn
          replace h_b := h_b.below bn
          replace h_ra := h_ra.below bn
          replace h_rb := h_rb.below bn
          replace h_rn := h_rn.below bn
          replace bw := below_two bw bn
          clear bn
          by_cases k0 : K < 0
          · skip
            obtain ⟨z_x, F0⟩ : ∃ z_x, powR (some z_a) 0 = (some z_x, 0) := ⟨_, pow_some (m := 5) B_BDa.out (num_ne i0_a) (by omega) (by decide) (by decide)⟩
            have F0 : powR (some z_a) 0 = (some z_x, 0) := F0
            have F0 := Lib.hid F0
            clear i0_a
            have c_a0 := h_ra.c0
            have c_a1 := h_ra.c1
            have c_a2 := h_ra.c2
            go_wp2_with fail
            clear c_a0 c_a1 c_a2
            refine (pOf_c h_a (by decide) 0 _ _ F0.out).mono ?_
            rintro e w21 ⟨A_x, n_x, c_x, B_x, m_x, d_x, rfl, h_x, bn⟩
            replace h_a := h_a.below bn
            replace h_b := h_b.below bn
            replace h_ra := h_ra.below bn
            replace h_rb := h_rb.below bn
            replace h_rn := h_rn.below bn
            replace bw := below_two bw bn
            clear bn
            have h_rx := row3_new w21 27 (.bool (sg (oTop (some z_x)))) (.slice A_x n_x c_x) (.slice B_x m_x d_x)
            have bn := below_new w21 (.cells #[Value.bool (sg (oTop (some z_x))), Value.slice A_x n_x c_x, Value.slice B_x m_x d_x] 27)
            replace h_a := h_a.below bn
            replace h_b := h_b.below bn
            replace h_ra := h_ra.below bn
            replace h_rb := h_rb.below bn
            replace h_rn := h_rn.below bn
            replace h_x := h_x.below bn
            replace bw := below_two bw bn
            clear bn
            go_wp2
            generalize w21.alloc (.cells #[Value.bool (sg (oTop (some z_x))), Value.slice A_x n_x c_x, Value.slice B_x m_x d_x] 27) = w22 at *
            obtain ⟨q_x, eg⟩ : ∃ g, g = w21.heap.size := ⟨_, rfl⟩
            rw [← eg] at h_rx ⊢
            clear eg
            have hz2 : (s_a != 0) = true := by simpa [bne] using hz_a
            generalize w22 = wS at *
            refine region_freeg 18 1 [89, 90, 91, 92, 93, 94, 95, 96, 97, 98, 99, 100, 101, 102, 103, 104, 105, 106] ?aF27 (fun wx => Below wS.heap.size wS wx) (fun k vv wx => match k with
                | 0 => vv = .int .i64 0
                | 1 => vv = .bool true
                | 2 => vv = .bool true
                | 3 => vv = .agg #[.bool (sg (oTop (some z_a))), .slice A_a n_a c_a, .slice B_a m_a d_a]
                | 4 => vv = .int .i64 s_a
                | 5 => vv = .bool true
                | 6 => vv = .bool true
                | 7 => vv = undef
                | 8 => vv = undef
                | 9 => vv = undef
                | 10 => vv = undef
                | 11 => vv = undef
                | 12 => vv = undef
                | 13 => vv = .bool true
                | 14 => vv = .bool true
                | 15 => vv = .bool true
                | 16 => vv = .bool true
                | _ => vv = .bool true)
              (fun k => false) (by kernel_rfl) ?haF27 rfl (by kernel_rfl) (by kernel_rfl) (fun _ _ _ _ _ h => h) ?hSb27 ?hPb27 ?hS27 ?hop27 ?hfin27
            case haF27 =>
              intro vals
              simp only [fillAll, List.getElem?_cons_zero, List.getElem?_cons_succ, Act.put, List.setIfInBounds_toArray, List.set_cons_zero, List.set_cons_succ]
              exact rfl
            case hSb27 => exact fun wx w2 hb hS => below_two hS hb
            case hPb27 =>
              intro k v wa wb hb h
              match k, h with
              | 0, h => exact h
              | 1, h => exact h
              | 2, h => exact h
              | 3, h => exact h
              | 4, h => exact h
              | 5, h => exact h
              | 6, h => exact h
              | 7, h => exact h
              | 8, h => exact h
              | 9, h => exact h
              | 10, h => exact h
              | 11, h => exact h
              | 12, h => exact h
              | 13, h => exact h
              | 14, h => exact h
              | 15, h => exact h
              | 16, h => exact h
              | _ + 17, h => exact h
            case hS27 => exact (Below.refl _ _).drew
            case hop27 =>
              refine .cons (k := 0) (.plain rfl ?_) (.cons (k := 1) (.plain rfl ?_) (.cons (k := 2) (.plain rfl ?_) (.cons (k := 3) (.yes (fun vals wr hS hd g b e => by cases e; exact hd 2 (by decide +kernel)) ?_) (.cons (k := 4) (.yes (fun vals wr hS hd g b e => by cases e; exact hd 2 (by decide +kernel)) ?_) (.cons (k := 5) (.yes (fun vals wr hS hd g b e => by cases e; exact hd 2 (by decide +kernel)) ?_) (.cons (k := 6) (.yes (fun vals wr hS hd g b e => by cases e; exact hd 2 (by decide +kernel)) ?_) (.cons (k := 7) (.inr ⟨6, false, rfl, fun vals wr hS hd => hd 6 (by decide +kernel), fun _ _ => rfl, rfl⟩) (.cons (k := 8) (.inr ⟨6, false, rfl, fun vals wr hS hd => hd 6 (by decide +kernel), fun _ _ => rfl, rfl⟩) (.cons (k := 9) (.inr ⟨6, false, rfl, fun vals wr hS hd => hd 6 (by decide +kernel), fun _ _ => rfl, rfl⟩) (.cons (k := 10) (.inr ⟨6, false, rfl, fun vals wr hS hd => hd 6 (by decide +kernel), fun _ _ => rfl, rfl⟩) (.cons (k := 11) (.inr ⟨6, false, rfl, fun vals wr hS hd => hd 6 (by decide +kernel), fun _ _ => rfl, rfl⟩) (.cons (k := 12) (.inr ⟨6, false, rfl, fun vals wr hS hd => hd 6 (by decide +kernel), fun _ _ => rfl, rfl⟩) (.cons (k := 13) (.yes (fun vals wr hS hd g b e => by cases e; exact hd 2 (by decide +kernel)) ?_) (.cons (k := 14) (.plain rfl ?_) (.cons (k := 15) (.plain rfl ?_) (.cons (k := 16) (.yes (fun vals wr hS hd g b e => by cases e; exact hd 15 (by decide +kernel)) ?_) (.cons (k := 17) (.plain rfl ?_) (.nil))))))))))))))))))
              all_goals intro vals wr hS hd KC hK
              all_goals (show Oper.wp _ _ _ _ _ _; dsimp only)
              · go_simp
                refine hK _ _ rfl (Below.refl _ _) (by first | rfl | simp) (fun h => by cases h)
              · have d0 : vals 0 = _ := hd 0 (by decide +kernel)
                rw [d0]
                go_simp
                refine hK _ _ rfl (Below.refl _ _) (by first | rfl | simp) (fun h => by cases h)
              · have d1 : vals 1 = _ := hd 1 (by decide +kernel)
                rw [d1]
                go_simp
                refine hK _ _ rfl (Below.refl _ _) (by first | rfl | simp) (fun h => by cases h)
              · have z0 := (h_ra.below hS).c0
                have z1 := (h_ra.below hS).c1
                have z2 := (h_ra.below hS).c2
                go_simp
                refine hK _ _ rfl (Below.refl _ _) (by first | rfl | simp) (fun h => by cases h)
              · have d3 : vals 3 = _ := hd 3 (by decide +kernel)
                rw [d3]
                go_simp
                go_at_call 17
                with_reducible refine (rSign_c (h_a.below hS) (by decide) s_a S_a.out).mono ?_
                rintro e w2 ⟨rfl, bn_r⟩
                refine hK _ _ rfl bn_r rfl (fun h => by cases h)
              · have d4 : vals 4 = _ := hd 4 (by decide +kernel)
                rw [d4]
                go_simp
                refine hK _ _ rfl (Below.refl _ _) (by first | rfl | simp) (fun h => by cases h)
              · have d5 : vals 5 = _ := hd 5 (by decide +kernel)
                rw [d5]
                go_simp
                refine hK _ _ rfl (Below.refl _ _) (by first | rfl | simp) (fun h => by cases h)
              · have d6 : vals 6 = _ := hd 6 (by decide +kernel)
                have d12 : vals 12 = _ := hd 12 (by decide +kernel)
                rw [d6, d12]
                go_simp
                refine hK _ _ rfl (Below.refl _ _) (by first | rfl | simp) (fun h => by cases h)
              · have d2 : vals 2 = _ := hd 2 (by decide +kernel)
                have d13 : vals 13 = _ := hd 13 (by decide +kernel)
                rw [d2, d13]
                go_simp
                refine hK _ _ rfl (Below.refl _ _) (by first | rfl | simp) (fun h => by cases h)
              · have d14 : vals 14 = _ := hd 14 (by decide +kernel)
                rw [d14]
                go_simp
                refine hK _ _ rfl (Below.refl _ _) (by first | rfl | simp) (fun h => by cases h)
              · go_simp
                go_at_call 9
                with_reducible refine (wakes_any _).mono ?_
                rintro e w2 ⟨rfl, bn_r⟩
                refine hK _ _ rfl bn_r rfl (fun h => by cases h)
              · have d15 : vals 15 = _ := hd 15 (by decide +kernel)
                have d16 : vals 16 = _ := hd 16 (by decide +kernel)
                rw [d15, d16]
                go_simp
                refine hK _ _ rfl (Below.refl _ _) (by first | rfl | simp) (fun h => by cases h)
            case hfin27 =>
              intro vals wr hS hP hne
              have ez_17 : vals 17 = _ := hP 17 (by decide)
              have HB := Lib.hid (below_two bw hS)
              try dsimp only
              rw [ez_17]
              refine wpAny_ready (rs := [18]) (by kernel_rfl) (by simp) (AllReady.cons rfl (fun KC hK => ?_) AllReady.nil)
              go_simp
              refine hK _ _ ?_
              clear hK KC
              refine wpAny_done (by kernel_rfl) ?_ _
              go_wp2
              go_ret
              exact ⟨rfl, HB.out⟩
          · by_cases k1 : K = 0
            · skip
              subst k1
              obtain ⟨z_x, F0⟩ : ∃ z_x, powR (some z_a) 0 = (some z_x, 0) := ⟨_, pow_some (m := 5) B_BDa.out (num_ne i0_a) (by omega) (by decide) (by decide)⟩
              have F0 : powR (some z_a) 0 = (some z_x, 0) := F0
              have F0 := Lib.hid F0
              clear i0_a
              have c_a0 := h_ra.c0
              have c_a1 := h_ra.c1
              have c_a2 := h_ra.c2
              go_wp2_with fail
              clear c_a0 c_a1 c_a2
              refine (pOf_c h_a (by decide) 0 _ _ F0.out).mono ?_
              rintro e w23 ⟨A_x, n_x, c_x, B_x, m_x, d_x, rfl, h_x, bn⟩
              replace h_a := h_a.below bn
              replace h_b := h_b.below bn
              replace h_ra := h_ra.below bn
              replace h_rb := h_rb.below bn
              replace h_rn := h_rn.below bn
              replace bw := below_two bw bn
              clear bn
              have h_rx := row3_new w23 27 (.bool (sg (oTop (some z_x)))) (.slice A_x n_x c_x) (.slice B_x m_x d_x)
              have bn := below_new w23 (.cells #[Value.bool (sg (oTop (some z_x))), Value.slice A_x n_x c_x, Value.slice B_x m_x d_x] 27)
              replace h_a := h_a.below bn
              replace h_b := h_b.below bn
              replace h_ra := h_ra.below bn
              replace h_rb := h_rb.below bn
              replace h_rn := h_rn.below bn
              replace h_x := h_x.below bn
              replace bw := below_two bw bn
              clear bn
              go_wp2
              generalize w23.alloc (.cells #[Value.bool (sg (oTop (some z_x))), Value.slice A_x n_x c_x, Value.slice B_x m_x d_x] 27) = w24 at *
              obtain ⟨q_x, eg⟩ : ∃ g, g = w23.heap.size := ⟨_, rfl⟩
              rw [← eg] at h_rx ⊢
              clear eg
              have hz2 : (s_a != 0) = true := by simpa [bne] using hz_a
              generalize w24 = wS at *
              refine region_freeg 18 1 [89, 90, 91, 92, 93, 94, 95, 96, 97, 98, 99, 100, 101, 102, 103, 104, 105, 106] ?aF28 (fun wx => Below wS.heap.size wS wx) (fun k vv wx => match k with
                  | 0 => vv = .int .i64 0
                  | 1 => vv = .bool true
                  | 2 => vv = .bool true
                  | 3 => vv = .agg #[.bool (sg (oTop (some z_a))), .slice A_a n_a c_a, .slice B_a m_a d_a]
                  | 4 => vv = .int .i64 s_a
                  | 5 => vv = .bool true
                  | 6 => vv = .bool true
                  | 7 => vv = undef
                  | 8 => vv = undef
                  | 9 => vv = undef
                  | 10 => vv = undef
                  | 11 => vv = undef
                  | 12 => vv = undef
                  | 13 => vv = .bool true
                  | 14 => vv = .bool true
                  | 15 => vv = .bool true
                  | 16 => vv = .bool true
                  | _ => vv = .bool true)
                (fun k => false) (by kernel_rfl) ?haF28 rfl (by kernel_rfl) (by kernel_rfl) (fun _ _ _ _ _ h => h) ?hSb28 ?hPb28 ?hS28 ?hop28 ?hfin28
              case haF28 =>
                intro vals
                simp only [fillAll, List.getElem?_cons_zero, List.getElem?_cons_succ, Act.put, List.setIfInBounds_toArray, List.set_cons_zero, List.set_cons_succ]
                exact rfl
              case hSb28 => exact fun wx w2 hb hS => below_two hS hb
              case hPb28 =>
                intro k v wa wb hb h
                match k, h with
                | 0, h => exact h
                | 1, h => exact h
                | 2, h => exact h
                | 3, h => exact h
                | 4, h => exact h
                | 5, h => exact h
                | 6, h => exact h
                | 7, h => exact h
                | 8, h => exact h
                | 9, h => exact h
                | 10, h => exact h
                | 11, h => exact h
                | 12, h => exact h
                | 13, h => exact h
                | 14, h => exact h
                | 15, h => exact h
                | 16, h => exact h
                | _ + 17, h => exact h
              case hS28 => exact (Below.refl _ _).drew
              case hop28 =>
                refine .cons (k := 0) (.plain rfl ?_) (.cons (k := 1) (.plain rfl ?_) (.cons (k := 2) (.plain rfl ?_) (.cons (k := 3) (.yes (fun vals wr hS hd g b e => by cases e; exact hd 2 (by decide +kernel)) ?_) (.cons (k := 4) (.yes (fun vals wr hS hd g b e => by cases e; exact hd 2 (by decide +kernel)) ?_) (.cons (k := 5) (.yes (fun vals wr hS hd g b e => by cases e; exact hd 2 (by decide +kernel)) ?_) (.cons (k := 6) (.yes (fun vals wr hS hd g b e => by cases e; exact hd 2 (by decide +kernel)) ?_) (.cons (k := 7) (.inr ⟨6, false, rfl, fun vals wr hS hd => hd 6 (by decide +kernel), fun _ _ => rfl, rfl⟩) (.cons (k := 8) (.inr ⟨6, false, rfl, fun vals wr hS hd => hd 6 (by decide +kernel), fun _ _ => rfl, rfl⟩) (.cons (k := 9) (.inr ⟨6, false, rfl, fun vals wr hS hd => hd 6 (by decide +kernel), fun _ _ => rfl, rfl⟩) (.cons (k := 10) (.inr ⟨6, false, rfl, fun vals wr hS hd => hd 6 (by decide +kernel), fun _ _ => rfl, rfl⟩) (.cons (k := 11) (.inr ⟨6, false, rfl, fun vals wr hS hd => hd 6 (by decide +kernel), fun _ _ => rfl, rfl⟩) (.cons (k := 12) (.inr ⟨6, false, rfl, fun vals wr hS hd => hd 6 (by decide +kernel), fun _ _ => rfl, rfl⟩) (.cons (k := 13) (.yes (fun vals wr hS hd g b e => by cases e; exact hd 2 (by decide +kernel)) ?_) (.cons (k := 14) (.plain rfl ?_) (.cons (k := 15) (.plain rfl ?_) (.cons (k := 16) (.yes (fun vals wr hS hd g b e => by cases e; exact hd 15 (by decide +kernel)) ?_) (.cons (k := 17) (.plain rfl ?_) (.nil))))))))))))))))))
                all_goals intro vals wr hS hd KC hK
                all_goals (show Oper.wp _ _ _ _ _ _; dsimp only)
                · go_simp
                  refine hK _ _ rfl (Below.refl _ _) (by first | rfl | simp) (fun h => by cases h)
                · have d0 : vals 0 = _ := hd 0 (by decide +kernel)
                  rw [d0]
                  go_simp
                  refine hK _ _ rfl (Below.refl _ _) (by first | rfl | simp) (fun h => by cases h)
                · have d1 : vals 1 = _ := hd 1 (by decide +kernel)
                  rw [d1]
                  go_simp
                  refine hK _ _ rfl (Below.refl _ _) (by first | rfl | simp) (fun h => by cases h)
                · have z0 := (h_ra.below hS).c0
                  have z1 := (h_ra.below hS).c1
                  have z2 := (h_ra.below hS).c2
                  go_simp
                  refine hK _ _ rfl (Below.refl _ _) (by first | rfl | simp) (fun h => by cases h)
                · have d3 : vals 3 = _ := hd 3 (by decide +kernel)
                  rw [d3]
                  go_simp
                  go_at_call 17
                  with_reducible refine (rSign_c (h_a.below hS) (by decide) s_a S_a.out).mono ?_
                  rintro e w2 ⟨rfl, bn_r⟩
                  refine hK _ _ rfl bn_r rfl (fun h => by cases h)
                · have d4 : vals 4 = _ := hd 4 (by decide +kernel)
                  rw [d4]
                  go_simp
                  refine hK _ _ rfl (Below.refl _ _) (by first | rfl | simp) (fun h => by cases h)
                · have d5 : vals 5 = _ := hd 5 (by decide +kernel)
                  rw [d5]
                  go_simp
                  refine hK _ _ rfl (Below.refl _ _) (by first | rfl | simp) (fun h => by cases h)
                · have d6 : vals 6 = _ := hd 6 (by decide +kernel)
                  have d12 : vals 12 = _ := hd 12 (by decide +kernel)
                  rw [d6, d12]
                  go_simp
                  refine hK _ _ rfl (Below.refl _ _) (by first | rfl | simp) (fun h => by cases h)
                · have d2 : vals 2 = _ := hd 2 (by decide +kernel)
                  have d13 : vals 13 = _ := hd 13 (by decide +kernel)
                  rw [d2, d13]
                  go_simp
                  refine hK _ _ rfl (Below.refl _ _) (by first | rfl | simp) (fun h => by cases h)
                · have d14 : vals 14 = _ := hd 14 (by decide +kernel)
                  rw [d14]
                  go_simp
                  refine hK _ _ rfl (Below.refl _ _) (by first | rfl | simp) (fun h => by cases h)
                · go_simp
                  go_at_call 9
                  with_reducible refine (wakes_any _).mono ?_
                  rintro e w2 ⟨rfl, bn_r⟩
                  refine hK _ _ rfl bn_r rfl (fun h => by cases h)
                · have d15 : vals 15 = _ := hd 15 (by decide +kernel)
                  have d16 : vals 16 = _ := hd 16 (by decide +kernel)
                  rw [d15, d16]
                  go_simp
                  refine hK _ _ rfl (Below.refl _ _) (by first | rfl | simp) (fun h => by cases h)
              case hfin28 =>
                intro vals wr hS hP hne
                have ez_17 : vals 17 = _ := hP 17 (by decide)
                have HB := Lib.hid (below_two bw hS)
                try dsimp only
                rw [ez_17]
                refine wpAny_ready (rs := [18]) (by kernel_rfl) (by simp) (AllReady.cons rfl (fun KC hK => ?_) AllReady.nil)
                go_simp
                refine hK _ _ ?_
                clear hK KC
                refine wpAny_done (by kernel_rfl) ?_ _
                go_wp2
                go_ret
                exact ⟨rfl, HB.out⟩
            · skip
              obtain ⟨N, hN⟩ : ∃ N : Nat, K = (N : Int) := ⟨K.toNat, by omega⟩
              subst hN
              have n0 : (0 : Int) < (N : Int) := by omega
              obtain ⟨z_x, F0⟩ : ∃ z_x, powR (some z_a) (N : Int) = (some z_x, 0) := ⟨_, pow_some (m := 5) B_BDa.out (num_ne i0_a) (by omega) (by decide) (by decide)⟩
              have F0 : powR (some z_a) (N : Int) = (some z_x, 0) := F0
              have F0 := Lib.hid F0
              clear i0_a
              have c_a0 := h_ra.c0
              have c_a1 := h_ra.c1
              have c_a2 := h_ra.c2
              go_wp2_with fail
              clear c_a0 c_a1 c_a2
              refine (pOf_c h_a (by decide) (N : Int) _ _ F0.out).mono ?_
              rintro e w25 ⟨A_x, n_x, c_x, B_x, m_x, d_x, rfl, h_x, bn⟩
              replace h_a := h_a.below bn
              replace h_b := h_b.below bn
              replace h_ra := h_ra.below bn
              replace h_rb := h_rb.below bn
              replace h_rn := h_rn.below bn
              replace bw := below_two bw bn
              clear bn
              have h_rx := row3_new w25 27 (.bool (sg (oTop (some z_x)))) (.slice A_x n_x c_x) (.slice B_x m_x d_x)
              have bn := below_new w25 (.cells #[Value.bool (sg (oTop (some z_x))), Value.slice A_x n_x c_x, Value.slice B_x m_x d_x] 27)
              replace h_a := h_a.below bn
              replace h_b := h_b.below bn
              replace h_ra := h_ra.below bn
              replace h_rb := h_rb.below bn
              replace h_rn := h_rn.below bn
              replace h_x := h_x.below bn
              replace bw := below_two bw bn
              clear bn
              go_wp2
              generalize w25.alloc (.cells #[Value.bool (sg (oTop (some z_x))), Value.slice A_x n_x c_x, Value.slice B_x m_x d_x] 27) = w26 at *
              obtain ⟨q_x, eg⟩ : ∃ g, g = w25.heap.size := ⟨_, rfl⟩
              rw [← eg] at h_rx ⊢
              clear eg
              have hz2 : (s_a != 0) = true := by simpa [bne] using hz_a
              generalize w26 = wS at *
              refine region_freeg 18 1 [89, 90, 91, 92, 93, 94, 95, 96, 97, 98, 99, 100, 101, 102, 103, 104, 105, 106] ?aF29 (fun wx => Below wS.heap.size wS wx) (fun k vv wx => match k with
                  | 0 => vv = .int .i64 0
                  | 1 => vv = .bool true
                  | 2 => vv = .bool true
                  | 3 => vv = .agg #[.bool (sg (oTop (some z_a))), .slice A_a n_a c_a, .slice B_a m_a d_a]
                  | 4 => vv = .int .i64 s_a
                  | 5 => vv = .bool true
                  | 6 => vv = .bool true
                  | 7 => vv = undef
                  | 8 => vv = undef
                  | 9 => vv = undef
                  | 10 => vv = undef
                  | 11 => vv = undef
                  | 12 => vv = undef
                  | 13 => vv = .bool true
                  | 14 => vv = .bool true
                  | 15 => vv = .bool true
                  | 16 => vv = .bool true
                  | _ => vv = .bool true)
                (fun k => false) (by kernel_rfl) ?haF29 rfl (by kernel_rfl) (by kernel_rfl) (fun _ _ _ _ _ h => h) ?hSb29 ?hPb29 ?hS29 ?hop29 ?hfin29
              case haF29 =>
                intro vals
                simp only [fillAll, List.getElem?_cons_zero, List.getElem?_cons_succ, Act.put, List.setIfInBounds_toArray, List.set_cons_zero, List.set_cons_succ]
                exact rfl
              case hSb29 => exact fun wx w2 hb hS => below_two hS hb
              case hPb29 =>
                intro k v wa wb hb h
                match k, h with
                | 0, h => exact h
                | 1, h => exact h
                | 2, h => exact h
                | 3, h => exact h
                | 4, h => exact h
                | 5, h => exact h
                | 6, h => exact h
                | 7, h => exact h
                | 8, h => exact h
                | 9, h => exact h
                | 10, h => exact h
                | 11, h => exact h
                | 12, h => exact h
                | 13, h => exact h
                | 14, h => exact h
                | 15, h => exact h
                | 16, h => exact h
                | _ + 17, h => exact h
              case hS29 => exact (Below.refl _ _).drew
              case hop29 =>
                refine .cons (k := 0) (.plain rfl ?_) (.cons (k := 1) (.plain rfl ?_) (.cons (k := 2) (.plain rfl ?_) (.cons (k := 3) (.yes (fun vals wr hS hd g b e => by cases e; exact hd 2 (by decide +kernel)) ?_) (.cons (k := 4) (.yes (fun vals wr hS hd g b e => by cases e; exact hd 2 (by decide +kernel)) ?_) (.cons (k := 5) (.yes (fun vals wr hS hd g b e => by cases e; exact hd 2 (by decide +kernel)) ?_) (.cons (k := 6) (.yes (fun vals wr hS hd g b e => by cases e; exact hd 2 (by decide +kernel)) ?_) (.cons (k := 7) (.inr ⟨6, false, rfl, fun vals wr hS hd => hd 6 (by decide +kernel), fun _ _ => rfl, rfl⟩) (.cons (k := 8) (.inr ⟨6, false, rfl, fun vals wr hS hd => hd 6 (by decide +kernel), fun _ _ => rfl, rfl⟩) (.cons (k := 9) (.inr ⟨6, false, rfl, fun vals wr hS hd => hd 6 (by decide +kernel), fun _ _ => rfl, rfl⟩) (.cons (k := 10) (.inr ⟨6, false, rfl, fun vals wr hS hd => hd 6 (by decide +kernel), fun _ _ => rfl, rfl⟩) (.cons (k := 11) (.inr ⟨6, false, rfl, fun vals wr hS hd => hd 6 (by decide +kernel), fun _ _ => rfl, rfl⟩) (.cons (k := 12) (.inr ⟨6, false, rfl, fun vals wr hS hd => hd 6 (by decide +kernel), fun _ _ => rfl, rfl⟩) (.cons (k := 13) (.yes (fun vals wr hS hd g b e => by cases e; exact hd 2 (by decide +kernel)) ?_) (.cons (k := 14) (.plain rfl ?_) (.cons (k := 15) (.plain rfl ?_) (.cons (k := 16) (.yes (fun vals wr hS hd g b e => by cases e; exact hd 15 (by decide +kernel)) ?_) (.cons (k := 17) (.plain rfl ?_) (.nil))))))))))))))))))
                all_goals intro vals wr hS hd KC hK
                all_goals (show Oper.wp _ _ _ _ _ _; dsimp only)
                · go_simp
                  refine hK _ _ rfl (Below.refl _ _) (by first | rfl | simp) (fun h => by cases h)
                · have d0 : vals 0 = _ := hd 0 (by decide +kernel)
                  rw [d0]
                  go_simp
                  refine hK _ _ rfl (Below.refl _ _) (by first | rfl | simp) (fun h => by cases h)
                · have d1 : vals 1 = _ := hd 1 (by decide +kernel)
                  rw [d1]
                  go_simp
                  refine hK _ _ rfl (Below.refl _ _) (by first | rfl | simp) (fun h => by cases h)
                · have z0 := (h_ra.below hS).c0
                  have z1 := (h_ra.below hS).c1
                  have z2 := (h_ra.below hS).c2
                  go_simp
                  refine hK _ _ rfl (Below.refl _ _) (by first | rfl | simp) (fun h => by cases h)
                · have d3 : vals 3 = _ := hd 3 (by decide +kernel)
                  rw [d3]
                  go_simp
                  go_at_call 17
                  with_reducible refine (rSign_c (h_a.below hS) (by decide) s_a S_a.out).mono ?_
                  rintro e w2 ⟨rfl, bn_r⟩
                  refine hK _ _ rfl bn_r rfl (fun h => by cases h)
                · have d4 : vals 4 = _ := hd 4 (by decide +kernel)
                  rw [d4]
                  go_simp
                  refine hK _ _ rfl (Below.refl _ _) (by first | rfl | simp) (fun h => by cases h)
                · have d5 : vals 5 = _ := hd 5 (by decide +kernel)
                  rw [d5]
                  go_simp
                  refine hK _ _ rfl (Below.refl _ _) (by first | rfl | simp) (fun h => by cases h)
                · have d6 : vals 6 = _ := hd 6 (by decide +kernel)
                  have d12 : vals 12 = _ := hd 12 (by decide +kernel)
                  rw [d6, d12]
                  go_simp
                  refine hK _ _ rfl (Below.refl _ _) (by first | rfl | simp) (fun h => by cases h)
                · have d2 : vals 2 = _ := hd 2 (by decide +kernel)
                  have d13 : vals 13 = _ := hd 13 (by decide +kernel)
                  rw [d2, d13]
                  go_simp
                  refine hK _ _ rfl (Below.refl _ _) (by first | rfl | simp) (fun h => by cases h)
                · have d14 : vals 14 = _ := hd 14 (by decide +kernel)
                  rw [d14]
                  go_simp
                  refine hK _ _ rfl (Below.refl _ _) (by first | rfl | simp) (fun h => by cases h)
                · go_simp
                  go_at_call 9
                  with_reducible refine (wakes_any _).mono ?_
                  rintro e w2 ⟨rfl, bn_r⟩
                  refine hK _ _ rfl bn_r rfl (fun h => by cases h)
                · have d15 : vals 15 = _ := hd 15 (by decide +kernel)
                  have d16 : vals 16 = _ := hd 16 (by decide +kernel)
                  rw [d15, d16]
                  go_simp
                  refine hK _ _ rfl (Below.refl _ _) (by first | rfl | simp) (fun h => by cases h)
              case hfin29 =>
                intro vals wr hS hP hne
                have ez_17 : vals 17 = _ := hP 17 (by decide)
                have HB := Lib.hid (below_two bw hS)
                try dsimp only
                rw [ez_17]
                refine wpAny_ready (rs := [18]) (by kernel_rfl) (by simp) (AllReady.cons rfl (fun KC hK => ?_) AllReady.nil)
                go_simp
                refine hK _ _ ?_
                clear hK KC
                refine wpAny_done (by kernel_rfl) ?_ _
                go_wp2
                go_ret
                exact ⟨rfl, HB.out⟩
        · skip
          obtain ⟨s_a, hs_a⟩ : ∃ v, cmpQ z_a 0 = v := ⟨_, rfl⟩
          have hn_a := sign_num (q := z_a)
          rw [hs_a] at hn_a
          have hz_a : (s_a == 0) = false := by rw [hn_a]; simpa using i0_a
          have S_a : RowKit.Hid (cmpR (some z_a) (some 0) = s_a) := hs_a
          clear hn_a hs_a
          obtain ⟨s_b, hs_b⟩ : ∃ v, cmpQ z_b 0 = v := ⟨_, rfl⟩
          have hn_b := sign_num (q := z_b)
          rw [hs_b] at hn_b
          have hz_b : (s_b == 0) = false := by rw [hn_b]; simpa using i0_b
          have S_b : RowKit.Hid (cmpR (some z_b) (some 0) = s_b) := hs_b
          clear hn_b hs_b
          obtain ⟨z_x, z_y, z_z, z_q, z_c, z_s, z_t, F0, F1, F2, F3, F4, F5, F6, F7, F8, F9⟩ := sums_facts B_BDa.out B_BDb.out i0_a i0_b HK.out HJ.out
          have F0 := Lib.hid F0
          have F1 := Lib.hid F1
          have F2 := Lib.hid F2
          have F3 := Lib.hid F3
          have F4 := Lib.hid F4
          have F5 := Lib.hid F5
          have F6 := Lib.hid F6
          have F7 := Lib.hid F7
          have F8 := Lib.hid F8
          have F9 := Lib.hid F9
          have M0 := abs_mul_le HK.out HJ.out
          obtain ⟨M, hM⟩ : ∃ M, K * J = M := ⟨_, rfl⟩
          rw [hM] at F5 M0
          have M1 : -25 ≤ M := by omega
          have M2 : M ≤ 25 := by omega
          have M3 : IntKind.i64.wrap (K * J) = M := by rw [hM, IntKind.wrap_i64]; omega
          have M4 : wrap64 (K * J) = M := by rw [hM]; unfold wrap64; omega
          clear M0 i0_a i0_b
          have c_a0 := h_ra.c0
          have c_a1 := h_ra.c1
          have c_a2 := h_ra.c2
          have c_b0 := h_rb.c0
          have c_b1 := h_rb.c1
          have c_b2 := h_rb.c2
          go_wp2_with fail
          clear c_a0 c_a1 c_a2 c_b0 c_b1 c_b2
          refine (rSign_c h_a (by decide) s_a S_a.out).mono ?_
          rintro e w27 ⟨rfl, bn⟩
          replace h_a := h_a.below bn
          replace h_b := h_b.below bn
          replace h_ra := h_ra.below bn
          replace h_rb := h_rb.below bn
          replace h_rn := h_rn.below bn
          replace bw := below_two bw bn
          clear bn
          have c_a0 := h_ra.c0
          have c_a1 := h_ra.c1
          have c_a2 := h_ra.c2
          have c_b0 := h_rb.c0
          have c_b1 := h_rb.c1
          have c_b2 := h_rb.c2
          go_wp2_with fail
          clear c_a0 c_a1 c_a2 c_b0 c_b1 c_b2
          refine (rSign_c h_b (by decide) s_b S_b.out).mono ?_
          rintro e w28 ⟨rfl, bn⟩
          replace h_a := h_a.below bn
          replace h_b := h_b.below bn
          replace h_ra := h_ra.below bn
          replace h_rb := h_rb.below bn
          replace h_rn := h_rn.below bn
          replace bw := below_two bw bn
          clear bn
          have c_a0 := h_ra.c0
          have c_a1 := h_ra.c1
          have c_a2 := h_ra.c2
          have c_b0 := h_rb.c0
          have c_b1 := h_rb.c1
          have c_b2 := h_rb.c2
          go_wp2_with fail
          clear c_a0 c_a1 c_a2 c_b0 c_b1 c_b2
          refine (pOf_c h_a (by decide) K _ _ F0.out).mono ?_
          rintro e w29 ⟨A_x, n_x, c_x, B_x, m_x, d_x, rfl, h_x, bn⟩
          replace h_a := h_a.below bn
          replace h_b := h_b.below bn
          replace h_ra := h_ra.below bn
          replace h_rb := h_rb.below bn
          replace h_rn := h_rn.below bn
          replace bw := below_two bw bn
          clear bn
          have h_rx := row3_new w29 27 (.bool (sg (oTop (some z_x)))) (.slice A_x n_x c_x) (.slice B_x m_x d_x)
          have bn := below_new w29 (.cells #[Value.bool (sg (oTop (some z_x))), Value.slice A_x n_x c_x, Value.slice B_x m_x d_x] 27)
          replace h_a := h_a.below bn
          replace h_b := h_b.below bn
          replace h_ra := h_ra.below bn
          replace h_rb := h_rb.below bn
          replace h_rn := h_rn.below bn
          replace h_x := h_x.below bn
          replace bw := below_two bw bn
          clear bn
          have c_a0 := h_ra.c0
          have c_a1 := h_ra.c1
          have c_a2 := h_ra.c2
          go_wp2_with fail
          clear c_a0 c_a1 c_a2
          generalize w29.alloc (.cells #[Value.bool (sg (oTop (some z_x))), Value.slice A_x n_x c_x, Value.slice B_x m_x d_x] 27) = w30 at *
          obtain ⟨q_x, eg⟩ : ∃ g, g = w29.heap.size := ⟨_, rfl⟩
          rw [← eg] at h_rx ⊢
          clear eg
          refine (pOf_c h_a (by decide) J _ _ F1.out).mono ?_
          rintro e w31 ⟨A_y, n_y, c_y, B_y, m_y, d_y, rfl, h_y, bn⟩
          replace h_a := h_a.below bn
          replace h_b := h_b.below bn
          replace h_ra := h_ra.below bn
          replace h_rb := h_rb.below bn
          replace h_rn := h_rn.below bn
          replace h_x := h_x.below bn
          replace h_rx := h_rx.below bn
          replace bw := below_two bw bn
          clear bn
          have h_ry := row3_new w31 27 (.bool (sg (oTop (some z_y)))) (.slice A_y n_y c_y) (.slice B_y m_y d_y)
          have bn := below_new w31 (.cells #[Value.bool (sg (oTop (some z_y))), Value.slice A_y n_y c_y, Value.slice B_y m_y d_y] 27)
          replace h_a := h_a.below bn
          replace h_b := h_b.below bn
          replace h_ra := h_ra.below bn
          replace h_rb := h_rb.below bn
          replace h_rn := h_rn.below bn
          replace h_x := h_x.below bn
          replace h_rx := h_rx.below bn
          replace h_y := h_y.below bn
          replace bw := below_two bw bn
          clear bn
          have c_a0 := h_ra.c0
          have c_a1 := h_ra.c1
          have c_a2 := h_ra.c2
          go_wp2_with fail
          clear c_a0 c_a1 c_a2
          generalize w31.alloc (.cells #[Value.bool (sg (oTop (some z_y))), Value.slice A_y n_y c_y, Value.slice B_y m_y d_y] 27) = w32 at *
          obtain ⟨q_y, eg⟩ : ∃ g, g = w31.heap.size := ⟨_, rfl⟩
          rw [← eg] at h_ry ⊢
          clear eg
          refine (pOf_c h_a (by decide) (K + J) _ _ F2.out).mono ?_
          rintro e w33 ⟨A_z, n_z, c_z, B_z, m_z, d_z, rfl, h_z, bn⟩
          replace h_a := h_a.below bn
          replace h_b := h_b.below bn
          replace h_ra := h_ra.below bn
          replace h_rb := h_rb.below bn
          replace h_rn := h_rn.below bn
          replace h_x := h_x.below bn
          replace h_rx := h_rx.below bn
          replace h_y := h_y.below bn
          replace h_ry := h_ry.below bn
          replace bw := below_two bw bn
          clear bn
          have h_rz := row3_new w33 27 (.bool (sg (oTop (some z_z)))) (.slice A_z n_z c_z) (.slice B_z m_z d_z)
          have bn := below_new w33 (.cells #[Value.bool (sg (oTop (some z_z))), Value.slice A_z n_z c_z, Value.slice B_z m_z d_z] 27)
          replace h_a := h_a.below bn
          replace h_b := h_b.below bn
          replace h_ra := h_ra.below bn
          replace h_rb := h_rb.below bn
          replace h_rn := h_rn.below bn
          replace h_x := h_x.below bn
          replace h_rx := h_rx.below bn
          replace h_y := h_y.below bn
          replace h_ry := h_ry.below bn
          replace h_z := h_z.below bn
          replace bw := below_two bw bn
          clear bn
          have c_x0 := h_rx.c0
          have c_x1 := h_rx.c1
          have c_x2 := h_rx.c2
          have c_y0 := h_ry.c0
          have c_y1 := h_ry.c1
          have c_y2 := h_ry.c2
          go_wp2_with fail
          clear c_x0 c_x1 c_x2 c_y0 c_y1 c_y2
          generalize w33.alloc (.cells #[Value.bool (sg (oTop (some z_z))), Value.slice A_z n_z c_z, Value.slice B_z m_z d_z] 27) = w34 at *
          obtain ⟨q_z, eg⟩ : ∃ g, g = w33.heap.size := ⟨_, rfl⟩
          rw [← eg] at h_rz ⊢
          clear eg
          refine (rMul_c h_x h_y (by decide) (by decide) _ _ F3.out).mono ?_
          rintro e w35 ⟨A_p, n_p, c_p, B_p, m_p, d_p, rfl, h_p, bn⟩
          replace h_a := h_a.below bn
          replace h_b := h_b.below bn
          replace h_ra := h_ra.below bn
          replace h_rb := h_rb.below bn
          replace h_rn := h_rn.below bn
          replace h_x := h_x.below bn
          replace h_rx := h_rx.below bn
          replace h_y := h_y.below bn
          replace h_ry := h_ry.below bn
          replace h_z := h_z.below bn
          replace h_rz := h_rz.below bn
          replace bw := below_two bw bn
          clear bn
          have h_rp := row3_new w35 27 (.bool (sg (oTop (some z_z)))) (.slice A_p n_p c_p) (.slice B_p m_p d_p)
          have bn := below_new w35 (.cells #[Value.bool (sg (oTop (some z_z))), Value.slice A_p n_p c_p, Value.slice B_p m_p d_p] 27)
          replace h_a := h_a.below bn
          replace h_b := h_b.below bn
          replace h_ra := h_ra.below bn
          replace h_rb := h_rb.below bn
          replace h_rn := h_rn.below bn
          replace h_x := h_x.below bn
          replace h_rx := h_rx.below bn
          replace h_y := h_y.below bn
          replace h_ry := h_ry.below bn
          replace h_z := h_z.below bn
          replace h_rz := h_rz.below bn
          replace h_p := h_p.below bn
          replace bw := below_two bw bn
          clear bn
          have c_x0 := h_rx.c0
          have c_x1 := h_rx.c1
          have c_x2 := h_rx.c2
          go_wp2_with fail
          clear c_x0 c_x1 c_x2
          generalize w35.alloc (.cells #[Value.bool (sg (oTop (some z_z))), Value.slice A_p n_p c_p, Value.slice B_p m_p d_p] 27) = w36 at *
          obtain ⟨q_p, eg⟩ : ∃ g, g = w35.heap.size := ⟨_, rfl⟩
          rw [← eg] at h_rp ⊢
          clear eg
          refine (pOf_c h_x (by decide) J _ _ F4.out).mono ?_
          rintro e w37 ⟨A_q, n_q, c_q, B_q, m_q, d_q, rfl, h_q, bn⟩
          replace h_a := h_a.below bn
          replace h_b := h_b.below bn
          replace h_ra := h_ra.below bn
          replace h_rb := h_rb.below bn
          replace h_rn := h_rn.below bn
          replace h_x := h_x.below bn
          replace h_rx := h_rx.below bn
          replace h_y := h_y.below bn
          replace h_ry := h_ry.below bn
          replace h_z := h_z.below bn
          replace h_rz := h_rz.below bn
          replace h_p := h_p.below bn
          replace h_rp := h_rp.below bn
          replace bw := below_two bw bn
          clear bn
          have h_rq := row3_new w37 27 (.bool (sg (oTop (some z_q)))) (.slice A_q n_q c_q) (.slice B_q m_q d_q)
          have bn := below_new w37 (.cells #[Value.bool (sg (oTop (some z_q))), Value.slice A_q n_q c_q, Value.slice B_q m_q d_q] 27)
          replace h_a := h_a.below bn
          replace h_b := h_b.below bn
          replace h_ra := h_ra.below bn
          replace h_rb := h_rb.below bn
          replace h_rn := h_rn.below bn
          replace h_x := h_x.below bn
          replace h_rx := h_rx.below bn
          replace h_y := h_y.below bn
          replace h_ry := h_ry.below bn
          replace h_z := h_z.below bn
          replace h_rz := h_rz.below bn
          replace h_p := h_p.below bn
          replace h_rp := h_rp.below bn
          replace h_q := h_q.below bn
          replace bw := below_two bw bn
          clear bn
          have c_a0 := h_ra.c0
          have c_a1 := h_ra.c1
          have c_a2 := h_ra.c2
          go_wp2_with fail
          clear c_a0 c_a1 c_a2
          generalize w37.alloc (.cells #[Value.bool (sg (oTop (some z_q))), Value.slice A_q n_q c_q, Value.slice B_q m_q d_q] 27) = w38 at *
          obtain ⟨q_q, eg⟩ : ∃ g, g = w37.heap.size := ⟨_, rfl⟩
          rw [← eg] at h_rq ⊢
          clear eg
          refine (pOf_c h_a (by decide) M _ _ F5.out).mono ?_
          rintro e w39 ⟨A_g, n_g, c_g, B_g, m_g, d_g, rfl, h_g, bn⟩
          replace h_a := h_a.below bn
          replace h_b := h_b.below bn
          replace h_ra := h_ra.below bn
          replace h_rb := h_rb.below bn
          replace h_rn := h_rn.below bn
          replace h_x := h_x.below bn
          replace h_rx := h_rx.below bn
          replace h_y := h_y.below bn
          replace h_ry := h_ry.below bn
          replace h_z := h_z.below bn
          replace h_rz := h_rz.below bn
          replace h_p := h_p.below bn
          replace h_rp := h_rp.below bn
          replace h_q := h_q.below bn
          replace h_rq := h_rq.below bn
          replace bw := below_two bw bn
          clear bn
          have h_rg := row3_new w39 27 (.bool (sg (oTop (some z_q)))) (.slice A_g n_g c_g) (.slice B_g m_g d_g)
          have bn := below_new w39 (.cells #[Value.bool (sg (oTop (some z_q))), Value.slice A_g n_g c_g, Value.slice B_g m_g d_g] 27)
          replace h_a := h_a.below bn
          replace h_b := h_b.below bn
          replace h_ra := h_ra.below bn
          replace h_rb := h_rb.below bn
          replace h_rn := h_rn.below bn
          replace h_x := h_x.below bn
          replace h_rx := h_rx.below bn
          replace h_y := h_y.below bn
          replace h_ry := h_ry.below bn
          replace h_z := h_z.below bn
          replace h_rz := h_rz.below bn
          replace h_p := h_p.below bn
          replace h_rp := h_rp.below bn
          replace h_q := h_q.below bn
          replace h_rq := h_rq.below bn
          replace h_g := h_g.below bn
          replace bw := below_two bw bn
          clear bn
          have c_a0 := h_ra.c0
          have c_a1 := h_ra.c1
          have c_a2 := h_ra.c2
          have c_b0 := h_rb.c0
          have c_b1 := h_rb.c1
          have c_b2 := h_rb.c2
          go_wp2_with fail
          clear c_a0 c_a1 c_a2 c_b0 c_b1 c_b2
          generalize w39.alloc (.cells #[Value.bool (sg (oTop (some z_q))), Value.slice A_g n_g c_g, Value.slice B_g m_g d_g] 27) = w40 at *
          obtain ⟨q_g, eg⟩ : ∃ g, g = w39.heap.size := ⟨_, rfl⟩
          rw [← eg] at h_rg ⊢
          clear eg
          refine (rMul_c h_a h_b (by decide) (by decide) _ _ F6.out).mono ?_
          rintro e w41 ⟨A_c, n_c, c_c, B_c, m_c, d_c, rfl, h_c, bn⟩
          replace h_a := h_a.below bn
          replace h_b := h_b.below bn
          replace h_ra := h_ra.below bn
          replace h_rb := h_rb.below bn
          replace h_rn := h_rn.below bn
          replace h_x := h_x.below bn
          replace h_rx := h_rx.below bn
          replace h_y := h_y.below bn
          replace h_ry := h_ry.below bn
          replace h_z := h_z.below bn
          replace h_rz := h_rz.below bn
          replace h_p := h_p.below bn
          replace h_rp := h_rp.below bn
          replace h_q := h_q.below bn
          replace h_rq := h_rq.below bn
          replace h_g := h_g.below bn
          replace h_rg := h_rg.below bn
          replace bw := below_two bw bn
          clear bn
          have h_rc := row3_new w41 27 (.bool (sg (oTop (some z_c)))) (.slice A_c n_c c_c) (.slice B_c m_c d_c)
          have bn := below_new w41 (.cells #[Value.bool (sg (oTop (some z_c))), Value.slice A_c n_c c_c, Value.slice B_c m_c d_c] 27)
          replace h_a := h_a.below bn
          replace h_b := h_b.below bn
          replace h_ra := h_ra.below bn
          replace h_rb := h_rb.below bn
          replace h_rn := h_rn.below bn
          replace h_x := h_x.below bn
          replace h_rx := h_rx.below bn
          replace h_y := h_y.below bn
          replace h_ry := h_ry.below bn
          replace h_z := h_z.below bn
          replace h_rz := h_rz.below bn
          replace h_p := h_p.below bn
          replace h_rp := h_rp.below bn
          replace h_q := h_q.below bn
          replace h_rq := h_rq.below bn
          replace h_g := h_g.below bn
          replace h_rg := h_rg.below bn
          replace h_c := h_c.below bn
          replace bw := below_two bw bn
          clear bn
          have c_c0 := h_rc.c0
          have c_c1 := h_rc.c1
          have c_c2 := h_rc.c2
          go_wp2_with fail
          clear c_c0 c_c1 c_c2
          generalize w41.alloc (.cells #[Value.bool (sg (oTop (some z_c))), Value.slice A_c n_c c_c, Value.slice B_c m_c d_c] 27) = w42 at *
          obtain ⟨q_c, eg⟩ : ∃ g, g = w41.heap.size := ⟨_, rfl⟩
          rw [← eg] at h_rc ⊢
          clear eg
          refine (pOf_c h_c (by decide) K _ _ F7.out).mono ?_
          rintro e w43 ⟨A_s, n_s, c_s, B_s, m_s, d_s, rfl, h_s, bn⟩
          replace h_a := h_a.below bn
          replace h_b := h_b.below bn
          replace h_ra := h_ra.below bn
          replace h_rb := h_rb.below bn
          replace h_rn := h_rn.below bn
          replace h_x := h_x.below bn
          replace h_rx := h_rx.below bn
          replace h_y := h_y.below bn
          replace h_ry := h_ry.below bn
          replace h_z := h_z.below bn
          replace h_rz := h_rz.below bn
          replace h_p := h_p.below bn
          replace h_rp := h_rp.below bn
          replace h_q := h_q.below bn
          replace h_rq := h_rq.below bn
          replace h_g := h_g.below bn
          replace h_rg := h_rg.below bn
          replace h_c := h_c.below bn
          replace h_rc := h_rc.below bn
          replace bw := below_two bw bn
          clear bn
          have h_rs := row3_new w43 27 (.bool (sg (oTop (some z_s)))) (.slice A_s n_s c_s) (.slice B_s m_s d_s)
          have bn := below_new w43 (.cells #[Value.bool (sg (oTop (some z_s))), Value.slice A_s n_s c_s, Value.slice B_s m_s d_s] 27)
          replace h_a := h_a.below bn
          replace h_b := h_b.below bn
          replace h_ra := h_ra.below bn
          replace h_rb := h_rb.below bn
          replace h_rn := h_rn.below bn
          replace h_x := h_x.below bn
          replace h_rx := h_rx.below bn
          replace h_y := h_y.below bn
          replace h_ry := h_ry.below bn
          replace h_z := h_z.below bn
          replace h_rz := h_rz.below bn
          replace h_p := h_p.below bn
          replace h_rp := h_rp.below bn
          replace h_q := h_q.below bn
          replace h_rq := h_rq.below bn
          replace h_g := h_g.below bn
          replace h_rg := h_rg.below bn
          replace h_c := h_c.below bn
          replace h_rc := h_rc.below bn
          replace h_s := h_s.below bn
          replace bw := below_two bw bn
          clear bn
          have c_b0 := h_rb.c0
          have c_b1 := h_rb.c1
          have c_b2 := h_rb.c2
          go_wp2_with fail
          clear c_b0 c_b1 c_b2
          generalize w43.alloc (.cells #[Value.bool (sg (oTop (some z_s))), Value.slice A_s n_s c_s, Value.slice B_s m_s d_s] 27) = w44 at *
          obtain ⟨q_s, eg⟩ : ∃ g, g = w43.heap.size := ⟨_, rfl⟩
          rw [← eg] at h_rs ⊢
          clear eg
          refine (pOf_c h_b (by decide) K _ _ F8.out).mono ?_
          rintro e w45 ⟨A_t, n_t, c_t, B_t, m_t, d_t, rfl, h_t, bn⟩
          replace h_a := h_a.below bn
          replace h_b := h_b.below bn
          replace h_ra := h_ra.below bn
          replace h_rb := h_rb.below bn
          replace h_rn := h_rn.below bn
          replace h_x := h_x.below bn
          replace h_rx := h_rx.below bn
          replace h_y := h_y.below bn
          replace h_ry := h_ry.below bn
          replace h_z := h_z.below bn
          replace h_rz := h_rz.below bn
          replace h_p := h_p.below bn
          replace h_rp := h_rp.below bn
          replace h_q := h_q.below bn
          replace h_rq := h_rq.below bn
          replace h_g := h_g.below bn
          replace h_rg := h_rg.below bn
          replace h_c := h_c.below bn
          replace h_rc := h_rc.below bn
          replace h_s := h_s.below bn
          replace h_rs := h_rs.below bn
          replace bw := below_two bw bn
          clear bn
          have h_rt := row3_new w45 27 (.bool (sg (oTop (some z_t)))) (.slice A_t n_t c_t) (.slice B_t m_t d_t)
          have bn := below_new w45 (.cells #[Value.bool (sg (oTop (some z_t))), Value.slice A_t n_t c_t, Value.slice B_t m_t d_t] 27)
          replace h_a := h_a.below bn
          replace h_b := h_b.below bn
          replace h_ra := h_ra.below bn
          replace h_rb := h_rb.below bn
          replace h_rn := h_rn.below bn
          replace h_x := h_x.below bn
          replace h_rx := h_rx.below bn
          replace h_y := h_y.below bn
          replace h_ry := h_ry.below bn
          replace h_z := h_z.below bn
          replace h_rz := h_rz.below bn
          replace h_p := h_p.below bn
          replace h_rp := h_rp.below bn
          replace h_q := h_q.below bn
          replace h_rq := h_rq.below bn
          replace h_g := h_g.below bn
          replace h_rg := h_rg.below bn
          replace h_c := h_c.below bn
          replace h_rc := h_rc.below bn
          replace h_s := h_s.below bn
          replace h_rs := h_rs.below bn
          replace h_t := h_t.below bn
          replace bw := below_two bw bn
          clear bn
          have c_x0 := h_rx.c0
          have c_x1 := h_rx.c1
          have c_x2 := h_rx.c2
          have c_t0 := h_rt.c0
          have c_t1 := h_rt.c1
          have c_t2 := h_rt.c2
          go_wp2_with fail
          clear c_x0 c_x1 c_x2 c_t0 c_t1 c_t2
          generalize w45.alloc (.cells #[Value.bool (sg (oTop (some z_t))), Value.slice A_t n_t c_t, Value.slice B_t m_t d_t] 27) = w46 at *
          obtain ⟨q_t, eg⟩ : ∃ g, g = w45.heap.size := ⟨_, rfl⟩
          rw [← eg] at h_rt ⊢
          clear eg
          refine (rMul_c h_x h_t (by decide) (by decide) _ _ F9.out).mono ?_
          rintro e w47 ⟨A_u, n_u, c_u, B_u, m_u, d_u, rfl, h_u, bn⟩
          replace h_a := h_a.below bn
          replace h_b := h_b.below bn
          replace h_ra := h_ra.below bn
          replace h_rb := h_rb.below bn
          replace h_rn := h_rn.below bn
          replace h_x := h_x.below bn
          replace h_rx := h_rx.below bn
          replace h_y := h_y.below bn
          replace h_ry := h_ry.below bn
          replace h_z := h_z.below bn
          replace h_rz := h_rz.below bn
          replace h_p := h_p.below bn
          replace h_rp := h_rp.below bn
          replace h_q := h_q.below bn
          replace h_rq := h_rq.below bn
          replace h_g := h_g.below bn
          replace h_rg := h_rg.below bn
          replace h_c := h_c.below bn
          replace h_rc := h_rc.below bn
          replace h_s := h_s.below bn
          replace h_rs := h_rs.below bn
          replace h_t := h_t.below bn
          replace h_rt := h_rt.below bn
          replace bw := below_two bw bn
          clear bn
          have h_ru := row3_new w47 27 (.bool (sg (oTop (some z_s)))) (.slice A_u n_u c_u) (.slice B_u m_u d_u)
          have bn := below_new w47 (.cells #[Value.bool (sg (oTop (some z_s))), Value.slice A_u n_u c_u, Value.slice B_u m_u d_u] 27)
          replace h_a := h_a.below bn
          replace h_b := h_b.below bn
          replace h_ra := h_ra.below bn
          replace h_rb := h_rb.below bn
          replace h_rn := h_rn.below bn
          replace h_x := h_x.below bn
          replace h_rx := h_rx.below bn
          replace h_y := h_y.below bn
          replace h_ry := h_ry.below bn
          replace h_z := h_z.below bn
          replace h_rz := h_rz.below bn
          replace h_p := h_p.below bn
          replace h_rp := h_rp.below bn
          replace h_q := h_q.below bn
          replace h_rq := h_rq.below bn
          replace h_g := h_g.below bn
          replace h_rg := h_rg.below bn
          replace h_c := h_c.below bn
          replace h_rc := h_rc.below bn
          replace h_s := h_s.below bn
          replace h_rs := h_rs.below bn
          replace h_t := h_t.below bn
          replace h_rt := h_rt.below bn
          replace h_u := h_u.below bn
          replace bw := below_two bw bn
          clear bn
          have c_p0 := h_rp.c0
          have c_p1 := h_rp.c1
          have c_p2 := h_rp.c2
          have c_z0 := h_rz.c0
          have c_z1 := h_rz.c1
          have c_z2 := h_rz.c2
          go_wp2_with fail
          clear c_p0 c_p1 c_p2 c_z0 c_z1 c_z2
          generalize w47.alloc (.cells #[Value.bool (sg (oTop (some z_s))), Value.slice A_u n_u c_u, Value.slice B_u m_u d_u] 27) = w48 at *
          obtain ⟨q_u, eg⟩ : ∃ g, g = w47.heap.size := ⟨_, rfl⟩
          rw [← eg] at h_ru ⊢
          clear eg
          refine (keepRat_c h_p h_z (by decide) (by decide) true (keepQ rfl)).mono ?_
          rintro e w49 ⟨rfl, bn⟩
          replace h_a := h_a.below bn
          replace h_b := h_b.below bn
          replace h_ra := h_ra.below bn
          replace h_rb := h_rb.below bn
          replace h_rn := h_rn.below bn
          replace h_x := h_x.below bn
          replace h_rx := h_rx.below bn
          replace h_y := h_y.below bn
          replace h_ry := h_ry.below bn
          replace h_z := h_z.below bn
          replace h_rz := h_rz.below bn
          replace h_p := h_p.below bn
          replace h_rp := h_rp.below bn
          replace h_q := h_q.below bn
          replace h_rq := h_rq.below bn
          replace h_g := h_g.below bn
          replace h_rg := h_rg.below bn
          replace h_c := h_c.below bn
          replace h_rc := h_rc.below bn
          replace h_s := h_s.below bn
          replace h_rs := h_rs.below bn
          replace h_t := h_t.below bn
          replace h_rt := h_rt.below bn
          replace h_u := h_u.below bn
          replace h_ru := h_ru.below bn
          replace bw := below_two bw bn
          clear bn
          have c_q0 := h_rq.c0
          have c_q1 := h_rq.c1
          have c_q2 := h_rq.c2
          have c_g0 := h_rg.c0
          have c_g1 := h_rg.c1
          have c_g2 := h_rg.c2
          go_wp2_with fail
          clear c_q0 c_q1 c_q2 c_g0 c_g1 c_g2
          refine (keepRat_c h_q h_g (by decide) (by decide) true (keepQ rfl)).mono ?_
          rintro e w50 ⟨rfl, bn⟩
          replace h_a := h_a.below bn
          replace h_b := h_b.below bn
          replace h_ra := h_ra.below bn
          replace h_rb := h_rb.below bn
          replace h_rn := h_rn.below bn
          replace h_x := h_x.below bn
          replace h_rx := h_rx.below bn
          replace h_y := h_y.below bn
          replace h_ry := h_ry.below bn
          replace h_z := h_z.below bn
          replace h_rz := h_rz.below bn
          replace h_p := h_p.below bn
          replace h_rp := h_rp.below bn
          replace h_q := h_q.below bn
          replace h_rq := h_rq.below bn
          replace h_g := h_g.below bn
          replace h_rg := h_rg.below bn
          replace h_c := h_c.below bn
          replace h_rc := h_rc.below bn
          replace h_s := h_s.below bn
          replace h_rs := h_rs.below bn
          replace h_t := h_t.below bn
          replace h_rt := h_rt.below bn
          replace h_u := h_u.below bn
          replace h_ru := h_ru.below bn
          replace bw := below_two bw bn
          clear bn
          have c_s0 := h_rs.c0
          have c_s1 := h_rs.c1
          have c_s2 := h_rs.c2
          have c_u0 := h_ru.c0
          have c_u1 := h_ru.c1
          have c_u2 := h_ru.c2
          go_wp2_with fail
          clear c_s0 c_s1 c_s2 c_u0 c_u1 c_u2
          refine (keepRat_c h_s h_u (by decide) (by decide) true (keepQ rfl)).mono ?_
          rintro e w51 ⟨rfl, bn⟩
          replace h_a := h_a.below bn
          replace h_b := h_b.below bn
          replace h_ra := h_ra.below bn
          replace h_rb := h_rb.below bn
          replace h_rn := h_rn.below bn
          replace h_x := h_x.below bn
          replace h_rx := h_rx.below bn
          replace h_y := h_y.below bn
          replace h_ry := h_ry.below bn
          replace h_z := h_z.below bn
          replace h_rz := h_rz.below bn
          replace h_p := h_p.below bn
          replace h_rp := h_rp.below bn
          replace h_q := h_q.below bn
          replace h_rq := h_rq.below bn
          replace h_g := h_g.below bn
          replace h_rg := h_rg.below bn
          replace h_c := h_c.below bn
          replace h_rc := h_rc.below bn
          replace h_s := h_s.below bn
          replace h_rs := h_rs.below bn
          replace h_t := h_t.below bn
          replace h_rt := h_rt.below bn
          replace h_u := h_u.below bn
          replace h_ru := h_ru.below bn
          replace bw := below_two bw bn
          clear bn
          go_wp2_with fail
          refine (wakes_any _).mono ?_
          rintro e w52 ⟨rfl, bn⟩
          replace h_a := h_a.below bn
          replace h_b := h_b.below bn
          replace h_ra := h_ra.below bn
          replace h_rb := h_rb.below bn
          replace h_rn := h_rn.below bn
          replace h_x := h_x.below bn
          replace h_rx := h_rx.below bn
          replace h_y := h_y.below bn
          replace h_ry := h_ry.below bn
          replace h_z := h_z.below bn
          replace h_rz := h_rz.below bn
          replace h_p := h_p.below bn
          replace h_rp := h_rp.below bn
          replace h_q := h_q.below bn
          replace h_rq := h_rq.below bn
          replace h_g := h_g.below bn
          replace h_rg := h_rg.below bn
          replace h_c := h_c.below bn
          replace h_rc := h_rc.below bn
          replace h_s := h_s.below bn
          replace h_rs := h_rs.below bn
          replace h_t := h_t.below bn
          replace h_rt := h_rt.below bn
          replace h_u := h_u.below bn
          replace h_ru := h_ru.below bn
          replace bw := below_two bw bn
          clear bn
          go_wp2
          go_ret
          exact ⟨rfl, bw⟩

set_option maxRecDepth 100000 in
theorem lifted (os : Os) (started : os.Started) (H : Type) (enc : TypeId × Value → H) :
    ReturnsInHanded {} Try.checked os 4 .any (Rows.powerSumsSpec.pre6 enc Try.prog Try.f4 Rows.powerSumsRow.domain false) (Rows.powerSumsSpec.post enc Try.prog Try.f4 false true false false) := by
  refine returnsInHanded_of_change (C := Try.checked) own started (by kernel_rfl) Try.func4
    (ChangeSpec.witness6 (enc := enc) (C := Try.checked) false ⟨#[], #[.agg #[.bool false, .slice none 0 0, .slice none 0 0], .agg #[.bool false, .slice none 0 0, .slice none 0 0], .agg #[.int .i8 0, .int .i8 0]], []⟩ 8 (by kernel_rfl) (by kernel_rfl) (by kernel_rfl) (by kernel_rfl)) ?_
  intro W base args ds gs before hval0 hW hcnd _
  have hval : ∀ (j : Nat) t v, Try.f4.params[j]? = some t → args[j]? = some v → Value.okWide Try.prog W .any base t v := hval0
  have hW' := hW
  obtain ⟨p, q, hA0, hV, rfl, hfz, hnd⟩ := hW
  have hA : DataW.TrodAll enc Try.prog W 0 (fun _ => true) true Try.f4.params.toList args.toList ds p := hA0
  rw [Try.params4] at hA hval
  obtain ⟨v0, vs0, d0, ds0, p0, q0, hargs, rfl, rfl, h0, r0⟩ := trodAll_cons hA
  obtain ⟨v1, vs1, d1, ds1, p1, q1, rfl, rfl, rfl, h1, r1⟩ := trodAll_cons r0
  obtain ⟨v2, vs2, d2, ds2, p2, q2, rfl, rfl, rfl, h2, r2⟩ := trodAll_cons r1
  obtain ⟨rfl, rfl, rfl⟩ := trodAll_nil r2
  obtain rfl : args = #[v0, v1, v2] := by cases args; simp_all
  obtain ⟨rfl, rfl⟩ := trodVars_none hV
  obtain ⟨b0, a0, len0, cap0, z0, e0, lem0, dap0, y0, rfl, i0, hc0, hm0, k0, kc0, km0⟩ := open_rat (hval 0 27 v0 rfl rfl) h0
  obtain ⟨b1, a1, len1, cap1, z1, e1, lem1, dap1, y1, rfl, i1, hc1, hm1, k1, kc1, km1⟩ := open_rat (hval 1 27 v1 rfl rfl) h1
  obtain ⟨a2, b2, rfl, w2, u2⟩ := open_pair8 (hval 2 40 v2 rfl rfl) h2
  clear hA0 hval0
  refine (walk b0 a0 len0 cap0 z0 e0 lem0 dap0 y0 b1 a1 len1 cap1 z1 e1 lem1 dap1 y1 a2 b2 W i0 hc0 hm0 k0 kc0 km0 i1 hc1 hm1 k1 kc1 km1 w2 u2).mono fun e W' ⟨he, bel⟩ => ?_
  subst he
  exact ⟨_, rfl, _, _, _, [], _, [], hW', trodAll_mk1 (shut_bool Try.underlying4 _), (trodAll_cons_mk (Below.trod laidOut (by kernel_rfl) (of_decide_eq_true (by kernel_rfl)) h0 bel (places_lt h0)) (trodAll_cons_mk (Below.trod laidOut (by kernel_rfl) (of_decide_eq_true (by kernel_rfl)) h1 bel (places_lt h1)) (trodAll_cons_mk (Below.trod laidOut (by kernel_rfl) (of_decide_eq_true (by kernel_rfl)) h2 bel (places_lt h2)) trodAll_mk0))), rfl, bel.frame _, fun h => by cases h⟩

theorem over : Rows.powerSumsRow.holds Try.pinned (OpenSpec.ofChange Rows.powerSumsSpec) :=
  OpenClaim.holds_of_wide 4 Try.f4 rfl rfl rfl rfl rfl rfl rfl ⟨rfl, rfl, rfl, rfl, rfl⟩ rfl rfl rfl rfl rfl (by kernel_rfl) Try.func4 (by kernel_rfl)
    (of_decide_eq_true (by kernel_rfl)) (by unfold Func.isWrapper; first | (rw [if_pos (by decide +kernel)]; kernel_rfl) | (rw [if_neg (by decide +kernel)]; exact ⟨rfl, rfl⟩))
    (fun os started H enc _ => lifted os started H enc)

theorem proved : Rows.PowerSumsSaid := over

end Go.Proofs.Ytmifgblbicnimaa.lawPowerSums
