/- Of any list of limbs, any text, any power: the digits, the number, ten to the power, or that there is none, are the document's own. No condition. -/
import Derived.Test.YtpkjooiddejgpaaDoorOpen
import Derived.Test.YtpkjooiddejgpaaDoorDigW
import Derived.Test.YtpkjooiddejgpaaDoorTab
import Derived.Test.YtpkjooiddejgpaaDoorCards
import Derived.Test.YtpkjooiddejgpaaDoorTie
import Derived.ChangeMaps5
import Derived.Lay
import Derived.SevenTiedAt
namespace Go.Proofs.YtpkjooiddejgpaaDoor.lawDigitsTell
open Go.ChangeShapes Go.WideShapes Go.ChangeAt Go.RowKit Limb
set_option linter.unusedVariables false

theorem wf_i64 {n : Int} (h : (Lit.int .i64 n).wf = true) : -9223372036854775808 ≤ n ∧ n ≤ 9223372036854775807 := by
  have h1 : IntKind.i64.min = -9223372036854775808 := rfl
  have h2 : IntKind.i64.max = 9223372036854775807 := rfl
  simp only [Lit.wf, Bool.and_eq_true, decide_eq_true_eq] at h
  omega

theorem refParse_u (s : ByteArray) (w : World) (v : Bool) (hv : numOk (bytesOf s) = v) (m : Nat) (hm : numV (bytesOf s) = m) :
    Calls Tryd.prog 10 #[.string s] w fun e w' => ∃ A1 n1 c1, e = .returned (.agg #[.slice A1 n1 c1, .bool v]) ∧ NN w' A1 n1 c1 (limbs m) m 223 ∧ Below w.heap.size w w' := by
  subst hv
  subst hm
  exact refParse_c s w
theorem refText_u {A : Option Addr} {n c : Nat} {xs : List Nat} {a L : Nat} {w : World} (hx : NN w A n c xs a L) (h1 : L ≤ 10000) (S : ByteArray) (hS : strOf (decT a) = S) :
    Calls Tryd.prog 15 #[.slice A n c] w fun e w' => e = .returned (.string S) ∧ Below w.heap.size w w' := by
  subst hS
  exact refText_c hx h1

set_option maxHeartbeats 4000000 in
set_option maxRecDepth 4000 in
theorem walk (A_a : Option Addr) (n_a c_a : Nat) (xs_a : List Nat) (s_s : ByteArray) (v_n : Int) (w : World) (i_a : IsN w A_a n_a xs_a) (hc_a : n_a ≤ c_a) (hm_a : c_a ≤ maxLen) (z_s : s_s.size ≤ maxLen) (f_n : (Lit.int .i64 v_n).wf = true) (T : Tab w) :
    Calls Tryd.prog 3 #[.slice A_a n_a c_a, .string s_s, .int .i64 v_n] w fun e w' => e = .returned (.bool true) ∧ Below w.heap.size w w' := by
  have HTab := Lib.hid T
  clear T
  have bw := bel_refl w
  have hx_a : (n_a : Int) ≤ 9223372036854775807 := by have := Nat.le_trans hc_a hm_a; unfold maxLen at this; omega
  by_cases l_a : 60 < n_a
  · go_enter Tryd.func3, Tryd.ntmps3
    go_wp2_with fail
    refine (wakes_any w HTab.out).mono ?_
    rintro e w1 ⟨rfl, bn⟩
    replace HTab := Lib.hid (HTab.out.below bn)
    replace bw := below_two bw bn
    clear bn
    go_wp2
    go_ret
    exact ⟨rfl, bw⟩
  by_cases l_s : 2100 < s_s.size
  · go_enter Tryd.func3, Tryd.ntmps3
    go_wp2_with fail
    refine (wakes_any w HTab.out).mono ?_
    rintro e w1 ⟨rfl, bn⟩
    replace HTab := Lib.hid (HTab.out.below bn)
    replace bw := below_two bw bn
    clear bn
    go_wp2
    go_ret
    exact ⟨rfl, bw⟩
  have h_a : NN w A_a n_a c_a xs_a (Limb.val xs_a) 60 := ⟨i_a, rfl, hc_a, by omega⟩
  obtain ⟨S, hS⟩ : ∃ S, strOf (decT (Limb.val xs_a)) = S := ⟨_, rfl⟩
  have HS := Lib.hid hS
  obtain ⟨v, hv⟩ : ∃ v, numOk (bytesOf s_s) = v := ⟨_, rfl⟩
  have Hv := Lib.hid hv
  obtain ⟨m, hm⟩ : ∃ m, numV (bytesOf s_s) = m := ⟨_, rfl⟩
  have Hm := Lib.hid hm
  have hw := wf_i64 f_n
  obtain ⟨hw1, hw2⟩ := hw
  clear hS hv hm f_n
  rcases (show v_n < 0 ∨ (0 ≤ v_n ∧ 2000 < v_n) ∨ (0 ≤ v_n ∧ v_n ≤ 600) ∨ (0 ≤ v_n ∧ 600 < v_n ∧ v_n ≤ 2000) by omega) with h0 | ⟨h0, h1⟩ | ⟨h0, h1⟩ | ⟨h0, h1, h2⟩
  · have hz : v_n < 0 ∨ 2000 < v_n := .inl h0
    have Hz := Lib.hid hz
    clear hz
    go_enter Tryd.func3, Tryd.ntmps3
    go_wp2_with fail
    refine (own_any A_a n_a c_a xs_a _ 60 w h_a (by decide)).mono ?_
    rintro e w1 ⟨A_p, n_p, c_p, rfl, h_p, bn⟩
    replace h_a := h_a.below bn
    replace HTab := Lib.hid (HTab.out.below bn)
    replace bw := below_two bw bn
    clear bn
    go_wp2_with fail
    refine (digParse_c s_s w1 HTab.out v Hv.out m Hm.out).mono ?_
    rintro e w2 ⟨A_b, n_b, c_b, rfl, h_b, bn⟩
    replace h_a := h_a.below bn
    replace h_p := h_p.below bn
    replace HTab := Lib.hid (HTab.out.below bn)
    replace bw := below_two bw bn
    clear bn
    go_wp2_with fail
    refine (refParse_u s_s w2 v Hv.out m Hm.out).mono ?_
    rintro e w3 ⟨A_r, n_r, c_r, rfl, h_r, bn⟩
    replace h_a := h_a.below bn
    replace h_p := h_p.below bn
    replace h_b := h_b.below bn
    replace HTab := Lib.hid (HTab.out.below bn)
    replace bw := below_two bw bn
    clear bn
    go_wp2_with fail
    have h_g := row2_new w3 29 (.slice A_r n_r c_r) (.bool v)
    have bn := below_new w3 (.cells #[Value.slice A_r n_r c_r, Value.bool v] 29)
    replace h_a := h_a.below bn
    replace h_p := h_p.below bn
    replace h_b := h_b.below bn
    replace h_r := h_r.below bn
    replace HTab := Lib.hid (HTab.out.below bn)
    replace bw := below_two bw bn
    clear bn
    generalize w3.alloc (.cells #[Value.slice A_r n_r c_r, Value.bool v] 29) = wg at *
    obtain ⟨g, eg⟩ : ∃ g, g = w3.heap.size := ⟨_, rfl⟩
    rw [← eg] at h_g ⊢
    clear eg
    refine (digTen_no v_n Hz.out hw1 hw2 wg).mono ?_
    rintro e w4 ⟨A_t, c_t, rfl, bn⟩
    replace h_a := h_a.below bn
    replace h_p := h_p.below bn
    replace h_b := h_b.below bn
    replace h_r := h_r.below bn
    replace h_g := h_g.below bn
    replace HTab := Lib.hid (HTab.out.below bn)
    replace bw := below_two bw bn
    clear bn
    go_wp2_with fail
    refine (digText_c HTab.out h_p (by decide) S HS.out).mono ?_
    rintro e w5 ⟨rfl, bn⟩
    replace h_a := h_a.below bn
    replace h_p := h_p.below bn
    replace h_b := h_b.below bn
    replace h_r := h_r.below bn
    replace h_g := h_g.below bn
    replace HTab := Lib.hid (HTab.out.below bn)
    replace bw := below_two bw bn
    clear bn
    go_wp2_with fail
    refine (refText_u h_a (by decide) S HS.out).mono ?_
    rintro e w6 ⟨rfl, bn⟩
    replace h_a := h_a.below bn
    replace h_p := h_p.below bn
    replace h_b := h_b.below bn
    replace h_r := h_r.below bn
    replace h_g := h_g.below bn
    replace HTab := Lib.hid (HTab.out.below bn)
    replace bw := below_two bw bn
    clear bn
    have hc0 := h_g.c0
    go_wp2_with fail
    refine (keep_c h_b h_r (by decide) (by decide) true (same_limbs rfl)).mono ?_
    rintro e w7 ⟨rfl, bn⟩
    replace h_a := h_a.below bn
    replace h_p := h_p.below bn
    replace h_b := h_b.below bn
    replace h_r := h_r.below bn
    replace h_g := h_g.below bn
    replace HTab := Lib.hid (HTab.out.below bn)
    replace bw := below_two bw bn
    clear bn
    clear hc0
    have hc1 := h_g.c1
    go_wp2_with fail
    refine (keep_c h_p h_a (by decide) (by decide) true (same_self _)).mono ?_
    rintro e w8 ⟨rfl, bn⟩
    replace h_a := h_a.below bn
    replace h_p := h_p.below bn
    replace h_b := h_b.below bn
    replace h_r := h_r.below bn
    replace h_g := h_g.below bn
    replace HTab := Lib.hid (HTab.out.below bn)
    replace bw := below_two bw bn
    clear bn
    clear hc1
    go_wp2_with fail
    refine (wakes_any w8 HTab.out).mono ?_
    rintro e w9 ⟨rfl, bn⟩
    replace h_a := h_a.below bn
    replace h_p := h_p.below bn
    replace h_b := h_b.below bn
    replace h_r := h_r.below bn
    replace h_g := h_g.below bn
    replace HTab := Lib.hid (HTab.out.below bn)
    replace bw := below_two bw bn
    clear bn
    go_wp2
    go_ret
    exact ⟨rfl, bw⟩
  · have hz : v_n < 0 ∨ 2000 < v_n := .inr h1
    have Hz := Lib.hid hz
    clear hz
    go_enter Tryd.func3, Tryd.ntmps3
    go_wp2_with fail
    refine (own_any A_a n_a c_a xs_a _ 60 w h_a (by decide)).mono ?_
    rintro e w1 ⟨A_p, n_p, c_p, rfl, h_p, bn⟩
    replace h_a := h_a.below bn
    replace HTab := Lib.hid (HTab.out.below bn)
    replace bw := below_two bw bn
    clear bn
    go_wp2_with fail
    refine (digParse_c s_s w1 HTab.out v Hv.out m Hm.out).mono ?_
    rintro e w2 ⟨A_b, n_b, c_b, rfl, h_b, bn⟩
    replace h_a := h_a.below bn
    replace h_p := h_p.below bn
    replace HTab := Lib.hid (HTab.out.below bn)
    replace bw := below_two bw bn
    clear bn
    go_wp2_with fail
    refine (refParse_u s_s w2 v Hv.out m Hm.out).mono ?_
    rintro e w3 ⟨A_r, n_r, c_r, rfl, h_r, bn⟩
    replace h_a := h_a.below bn
    replace h_p := h_p.below bn
    replace h_b := h_b.below bn
    replace HTab := Lib.hid (HTab.out.below bn)
    replace bw := below_two bw bn
    clear bn
    go_wp2_with fail
    have h_g := row2_new w3 29 (.slice A_r n_r c_r) (.bool v)
    have bn := below_new w3 (.cells #[Value.slice A_r n_r c_r, Value.bool v] 29)
    replace h_a := h_a.below bn
    replace h_p := h_p.below bn
    replace h_b := h_b.below bn
    replace h_r := h_r.below bn
    replace HTab := Lib.hid (HTab.out.below bn)
    replace bw := below_two bw bn
    clear bn
    generalize w3.alloc (.cells #[Value.slice A_r n_r c_r, Value.bool v] 29) = wg at *
    obtain ⟨g, eg⟩ : ∃ g, g = w3.heap.size := ⟨_, rfl⟩
    rw [← eg] at h_g ⊢
    clear eg
    refine (digTen_no v_n Hz.out hw1 hw2 wg).mono ?_
    rintro e w4 ⟨A_t, c_t, rfl, bn⟩
    replace h_a := h_a.below bn
    replace h_p := h_p.below bn
    replace h_b := h_b.below bn
    replace h_r := h_r.below bn
    replace h_g := h_g.below bn
    replace HTab := Lib.hid (HTab.out.below bn)
    replace bw := below_two bw bn
    clear bn
    go_wp2_with fail
    refine (digText_c HTab.out h_p (by decide) S HS.out).mono ?_
    rintro e w5 ⟨rfl, bn⟩
    replace h_a := h_a.below bn
    replace h_p := h_p.below bn
    replace h_b := h_b.below bn
    replace h_r := h_r.below bn
    replace h_g := h_g.below bn
    replace HTab := Lib.hid (HTab.out.below bn)
    replace bw := below_two bw bn
    clear bn
    go_wp2_with fail
    refine (refText_u h_a (by decide) S HS.out).mono ?_
    rintro e w6 ⟨rfl, bn⟩
    replace h_a := h_a.below bn
    replace h_p := h_p.below bn
    replace h_b := h_b.below bn
    replace h_r := h_r.below bn
    replace h_g := h_g.below bn
    replace HTab := Lib.hid (HTab.out.below bn)
    replace bw := below_two bw bn
    clear bn
    have hc0 := h_g.c0
    go_wp2_with fail
    refine (keep_c h_b h_r (by decide) (by decide) true (same_limbs rfl)).mono ?_
    rintro e w7 ⟨rfl, bn⟩
    replace h_a := h_a.below bn
    replace h_p := h_p.below bn
    replace h_b := h_b.below bn
    replace h_r := h_r.below bn
    replace h_g := h_g.below bn
    replace HTab := Lib.hid (HTab.out.below bn)
    replace bw := below_two bw bn
    clear bn
    clear hc0
    have hc1 := h_g.c1
    go_wp2_with fail
    refine (keep_c h_p h_a (by decide) (by decide) true (same_self _)).mono ?_
    rintro e w8 ⟨rfl, bn⟩
    replace h_a := h_a.below bn
    replace h_p := h_p.below bn
    replace h_b := h_b.below bn
    replace h_r := h_r.below bn
    replace h_g := h_g.below bn
    replace HTab := Lib.hid (HTab.out.below bn)
    replace bw := below_two bw bn
    clear bn
    clear hc1
    go_wp2_with fail
    refine (wakes_any w8 HTab.out).mono ?_
    rintro e w9 ⟨rfl, bn⟩
    replace h_a := h_a.below bn
    replace h_p := h_p.below bn
    replace h_b := h_b.below bn
    replace h_r := h_r.below bn
    replace h_g := h_g.below bn
    replace HTab := Lib.hid (HTab.out.below bn)
    replace bw := below_two bw bn
    clear bn
    go_wp2
    go_ret
    exact ⟨rfl, bw⟩
  · obtain ⟨N, rfl⟩ := Int.eq_ofNat_of_zero_le h0
    obtain ⟨q, hq⟩ : ∃ q, 10 ^ N = q := ⟨_, rfl⟩
    have Hq := Lib.hid hq
    clear hq
    go_enter Tryd.func3, Tryd.ntmps3
    go_wp2_with fail
    refine (own_any A_a n_a c_a xs_a _ 60 w h_a (by decide)).mono ?_
    rintro e w1 ⟨A_p, n_p, c_p, rfl, h_p, bn⟩
    replace h_a := h_a.below bn
    replace HTab := Lib.hid (HTab.out.below bn)
    replace bw := below_two bw bn
    clear bn
    go_wp2_with fail
    refine (digParse_c s_s w1 HTab.out v Hv.out m Hm.out).mono ?_
    rintro e w2 ⟨A_b, n_b, c_b, rfl, h_b, bn⟩
    replace h_a := h_a.below bn
    replace h_p := h_p.below bn
    replace HTab := Lib.hid (HTab.out.below bn)
    replace bw := below_two bw bn
    clear bn
    go_wp2_with fail
    refine (refParse_u s_s w2 v Hv.out m Hm.out).mono ?_
    rintro e w3 ⟨A_r, n_r, c_r, rfl, h_r, bn⟩
    replace h_a := h_a.below bn
    replace h_p := h_p.below bn
    replace h_b := h_b.below bn
    replace HTab := Lib.hid (HTab.out.below bn)
    replace bw := below_two bw bn
    clear bn
    go_wp2_with fail
    have h_g := row2_new w3 29 (.slice A_r n_r c_r) (.bool v)
    have bn := below_new w3 (.cells #[Value.slice A_r n_r c_r, Value.bool v] 29)
    replace h_a := h_a.below bn
    replace h_p := h_p.below bn
    replace h_b := h_b.below bn
    replace h_r := h_r.below bn
    replace HTab := Lib.hid (HTab.out.below bn)
    replace bw := below_two bw bn
    clear bn
    generalize w3.alloc (.cells #[Value.slice A_r n_r c_r, Value.bool v] 29) = wg at *
    obtain ⟨g, eg⟩ : ∃ g, g = w3.heap.size := ⟨_, rfl⟩
    rw [← eg] at h_g ⊢
    clear eg
    refine (digTen_yes N _ rfl (by omega) wg HTab.out).mono ?_
    rintro e w4 ⟨A_t, n_t, c_t, rfl, h_t, bn⟩
    rw [Hq.out] at h_t
    replace h_a := h_a.below bn
    replace h_p := h_p.below bn
    replace h_b := h_b.below bn
    replace h_r := h_r.below bn
    replace h_g := h_g.below bn
    replace HTab := Lib.hid (HTab.out.below bn)
    replace bw := below_two bw bn
    clear bn
    go_wp2_with fail
    refine (refTen_c N w4 (by omega) 223 (dec_room_lt (by omega))).mono ?_
    rintro e w5 ⟨A_x, n_x, c_x, rfl, h_x, bn⟩
    replace h_a := h_a.below bn
    replace h_p := h_p.below bn
    replace h_b := h_b.below bn
    replace h_r := h_r.below bn
    replace h_g := h_g.below bn
    replace h_t := h_t.below bn
    replace HTab := Lib.hid (HTab.out.below bn)
    replace bw := below_two bw bn
    clear bn
    rw [Hq.out] at h_x
    go_wp2_with fail
    refine (keep_c h_t h_x (by decide) (by decide) true (same_limbs rfl)).mono ?_
    rintro e w6 ⟨rfl, bn⟩
    replace h_a := h_a.below bn
    replace h_p := h_p.below bn
    replace h_b := h_b.below bn
    replace h_r := h_r.below bn
    replace h_g := h_g.below bn
    replace h_t := h_t.below bn
    replace h_x := h_x.below bn
    replace HTab := Lib.hid (HTab.out.below bn)
    replace bw := below_two bw bn
    clear bn
    clear h_t h_x
    go_wp2_with fail
    refine (digText_c HTab.out h_p (by decide) S HS.out).mono ?_
    rintro e w7 ⟨rfl, bn⟩
    replace h_a := h_a.below bn
    replace h_p := h_p.below bn
    replace h_b := h_b.below bn
    replace h_r := h_r.below bn
    replace h_g := h_g.below bn
    replace HTab := Lib.hid (HTab.out.below bn)
    replace bw := below_two bw bn
    clear bn
    go_wp2_with fail
    refine (refText_u h_a (by decide) S HS.out).mono ?_
    rintro e w8 ⟨rfl, bn⟩
    replace h_a := h_a.below bn
    replace h_p := h_p.below bn
    replace h_b := h_b.below bn
    replace h_r := h_r.below bn
    replace h_g := h_g.below bn
    replace HTab := Lib.hid (HTab.out.below bn)
    replace bw := below_two bw bn
    clear bn
    have hc0 := h_g.c0
    go_wp2_with fail
    refine (keep_c h_b h_r (by decide) (by decide) true (same_limbs rfl)).mono ?_
    rintro e w9 ⟨rfl, bn⟩
    replace h_a := h_a.below bn
    replace h_p := h_p.below bn
    replace h_b := h_b.below bn
    replace h_r := h_r.below bn
    replace h_g := h_g.below bn
    replace HTab := Lib.hid (HTab.out.below bn)
    replace bw := below_two bw bn
    clear bn
    clear hc0
    have hc1 := h_g.c1
    go_wp2_with fail
    refine (keep_c h_p h_a (by decide) (by decide) true (same_self _)).mono ?_
    rintro e w10 ⟨rfl, bn⟩
    replace h_a := h_a.below bn
    replace h_p := h_p.below bn
    replace h_b := h_b.below bn
    replace h_r := h_r.below bn
    replace h_g := h_g.below bn
    replace HTab := Lib.hid (HTab.out.below bn)
    replace bw := below_two bw bn
    clear bn
    clear hc1
    go_wp2_with fail
    refine (wakes_any w10 HTab.out).mono ?_
    rintro e w11 ⟨rfl, bn⟩
    replace h_a := h_a.below bn
    replace h_p := h_p.below bn
    replace h_b := h_b.below bn
    replace h_r := h_r.below bn
    replace h_g := h_g.below bn
    replace HTab := Lib.hid (HTab.out.below bn)
    replace bw := below_two bw bn
    clear bn
    go_wp2
    go_ret
    exact ⟨rfl, bw⟩
  · obtain ⟨N, rfl⟩ := Int.eq_ofNat_of_zero_le h0
    obtain ⟨q, hq⟩ : ∃ q, 10 ^ N = q := ⟨_, rfl⟩
    have Hq := Lib.hid hq
    clear hq
    go_enter Tryd.func3, Tryd.ntmps3
    go_wp2_with fail
    refine (own_any A_a n_a c_a xs_a _ 60 w h_a (by decide)).mono ?_
    rintro e w1 ⟨A_p, n_p, c_p, rfl, h_p, bn⟩
    replace h_a := h_a.below bn
    replace HTab := Lib.hid (HTab.out.below bn)
    replace bw := below_two bw bn
    clear bn
    go_wp2_with fail
    refine (digParse_c s_s w1 HTab.out v Hv.out m Hm.out).mono ?_
    rintro e w2 ⟨A_b, n_b, c_b, rfl, h_b, bn⟩
    replace h_a := h_a.below bn
    replace h_p := h_p.below bn
    replace HTab := Lib.hid (HTab.out.below bn)
    replace bw := below_two bw bn
    clear bn
    go_wp2_with fail
    refine (refParse_u s_s w2 v Hv.out m Hm.out).mono ?_
    rintro e w3 ⟨A_r, n_r, c_r, rfl, h_r, bn⟩
    replace h_a := h_a.below bn
    replace h_p := h_p.below bn
    replace h_b := h_b.below bn
    replace HTab := Lib.hid (HTab.out.below bn)
    replace bw := below_two bw bn
    clear bn
    go_wp2_with fail
    have h_g := row2_new w3 29 (.slice A_r n_r c_r) (.bool v)
    have bn := below_new w3 (.cells #[Value.slice A_r n_r c_r, Value.bool v] 29)
    replace h_a := h_a.below bn
    replace h_p := h_p.below bn
    replace h_b := h_b.below bn
    replace h_r := h_r.below bn
    replace HTab := Lib.hid (HTab.out.below bn)
    replace bw := below_two bw bn
    clear bn
    generalize w3.alloc (.cells #[Value.slice A_r n_r c_r, Value.bool v] 29) = wg at *
    obtain ⟨g, eg⟩ : ∃ g, g = w3.heap.size := ⟨_, rfl⟩
    rw [← eg] at h_g ⊢
    clear eg
    refine (digTen_yes N _ rfl (by omega) wg HTab.out).mono ?_
    rintro e w4 ⟨A_t, n_t, c_t, rfl, h_t, bn⟩
    rw [Hq.out] at h_t
    replace h_a := h_a.below bn
    replace h_p := h_p.below bn
    replace h_b := h_b.below bn
    replace h_r := h_r.below bn
    replace h_g := h_g.below bn
    replace HTab := Lib.hid (HTab.out.below bn)
    replace bw := below_two bw bn
    clear bn
    go_wp2_with fail
    refine (digText_c HTab.out h_p (by decide) S HS.out).mono ?_
    rintro e w5 ⟨rfl, bn⟩
    replace h_a := h_a.below bn
    replace h_p := h_p.below bn
    replace h_b := h_b.below bn
    replace h_r := h_r.below bn
    replace h_g := h_g.below bn
    replace h_t := h_t.below bn
    replace HTab := Lib.hid (HTab.out.below bn)
    replace bw := below_two bw bn
    clear bn
    go_wp2_with fail
    refine (refText_u h_a (by decide) S HS.out).mono ?_
    rintro e w6 ⟨rfl, bn⟩
    replace h_a := h_a.below bn
    replace h_p := h_p.below bn
    replace h_b := h_b.below bn
    replace h_r := h_r.below bn
    replace h_g := h_g.below bn
    replace h_t := h_t.below bn
    replace HTab := Lib.hid (HTab.out.below bn)
    replace bw := below_two bw bn
    clear bn
    have hc0 := h_g.c0
    go_wp2_with fail
    refine (keep_c h_b h_r (by decide) (by decide) true (same_limbs rfl)).mono ?_
    rintro e w7 ⟨rfl, bn⟩
    replace h_a := h_a.below bn
    replace h_p := h_p.below bn
    replace h_b := h_b.below bn
    replace h_r := h_r.below bn
    replace h_g := h_g.below bn
    replace h_t := h_t.below bn
    replace HTab := Lib.hid (HTab.out.below bn)
    replace bw := below_two bw bn
    clear bn
    clear hc0
    have hc1 := h_g.c1
    go_wp2_with fail
    refine (keep_c h_p h_a (by decide) (by decide) true (same_self _)).mono ?_
    rintro e w8 ⟨rfl, bn⟩
    replace h_a := h_a.below bn
    replace h_p := h_p.below bn
    replace h_b := h_b.below bn
    replace h_r := h_r.below bn
    replace h_g := h_g.below bn
    replace h_t := h_t.below bn
    replace HTab := Lib.hid (HTab.out.below bn)
    replace bw := below_two bw bn
    clear bn
    clear hc1
    go_wp2_with fail
    refine (wakes_any w8 HTab.out).mono ?_
    rintro e w9 ⟨rfl, bn⟩
    replace h_a := h_a.below bn
    replace h_p := h_p.below bn
    replace h_b := h_b.below bn
    replace h_r := h_r.below bn
    replace h_g := h_g.below bn
    replace h_t := h_t.below bn
    replace HTab := Lib.hid (HTab.out.below bn)
    replace bw := below_two bw bn
    clear bn
    go_wp2
    go_ret
    exact ⟨rfl, bw⟩

theorem tab_of {W : World} (h : laidMet Tryd.prog Rows.digitsTellRow.laid W) : Tab W := by
  refine ⟨?_, ?_⟩
  · first | exact powers_tab (laidMet_drop 0 h) (by decide +kernel) | exact powers_tab (laidMet_drop 1 h) (by decide +kernel) | exact powers_tab (laidMet_drop 2 h) (by decide +kernel) | exact powers_tab (laidMet_drop 3 h) (by decide +kernel) | exact powers_tab (laidMet_drop 4 h) (by decide +kernel) | exact powers_tab (laidMet_drop 5 h) (by decide +kernel) | exact powers_tab (laidMet_drop 6 h) (by decide +kernel) | exact powers_tab (laidMet_drop 7 h) (by decide +kernel) | exact powers_tab (laidMet_drop 8 h) (by decide +kernel) | exact powers_tab (laidMet_drop 9 h) (by decide +kernel) | exact powers_tab (laidMet_drop 10 h) (by decide +kernel) | exact powers_tab (laidMet_drop 11 h) (by decide +kernel) | exact powers_tab (laidMet_drop 12 h) (by decide +kernel) | exact powers_tab (laidMet_drop 13 h) (by decide +kernel)
  · first | exact err_tab (laidMet_drop 0 h) (by decide +kernel) | exact err_tab (laidMet_drop 1 h) (by decide +kernel) | exact err_tab (laidMet_drop 2 h) (by decide +kernel) | exact err_tab (laidMet_drop 3 h) (by decide +kernel) | exact err_tab (laidMet_drop 4 h) (by decide +kernel) | exact err_tab (laidMet_drop 5 h) (by decide +kernel) | exact err_tab (laidMet_drop 6 h) (by decide +kernel) | exact err_tab (laidMet_drop 7 h) (by decide +kernel) | exact err_tab (laidMet_drop 8 h) (by decide +kernel) | exact err_tab (laidMet_drop 9 h) (by decide +kernel) | exact err_tab (laidMet_drop 10 h) (by decide +kernel) | exact err_tab (laidMet_drop 11 h) (by decide +kernel) | exact err_tab (laidMet_drop 12 h) (by decide +kernel) | exact err_tab (laidMet_drop 13 h) (by decide +kernel)

set_option maxRecDepth 100000 in
theorem lifted (os : Os) (started : os.Started) (H : Type) (enc : TypeId × Value → H) :
    ReturnsInHanded {} Tryd.checked os 3 .any (fun w args => (Rows.digitsTellSpec.pre enc Tryd.prog Tryd.f3 [] false w args ∧ laidMetH Tryd.prog Rows.digitsTellRow.laid w) ∧ sizedMet enc Tryd.prog Tryd.f3 (OpenSpec.ofChange Rows.digitsTellSpec) false w args)
      (Rows.digitsTellSpec.post enc Tryd.prog Tryd.f3 false true false false) := by
  refine returnsInHanded_of_change_and (C := Tryd.checked) (X := fun w _ => laidMetH Tryd.prog Rows.digitsTellRow.laid w) (fun _ _ _ hh h => h.of_heap hh) own started (by kernel_rfl) Tryd.func3
    (ChangeSpec.witness_shaped (enc := enc) (C := Tryd.checked) (os := os) (X := fun w _ => laidMetH Tryd.prog Rows.digitsTellRow.laid w) false (World.laidAll Tryd.prog os Rows.digitsTellRow.laid) #[.slice none 0 0, .string ⟨#[]⟩, .int .i64 0] 8 (World.laidAll_os _ _ _)
      (World.shaped_of_ZipB (by kernel_rfl) (by kernel_rfl)) (by kernel_rfl) (by kernel_rfl) (by kernel_rfl)
      (by rw [MakeChecks.laidMetH_plain _ _ _ (by kernel_rfl)]; exact laidMet_laidAll _ (by kernel_rfl) (by kernel_rfl))) ?_
  intro W base args ds gs before hval0 hW _ _ hL _
  have hval : ∀ (j : Nat) t v, Tryd.f3.params[j]? = some t → args[j]? = some v → Value.okWide Tryd.prog W .any base t v := hval0
  have hW' := hW
  obtain ⟨p, q, hA0, hV, rfl, hfz, hnd⟩ := hW
  have hA : DataW.TrodAll enc Tryd.prog W 0 (fun _ => true) true Tryd.f3.params.toList args.toList ds p := hA0
  rw [Tryd.params3] at hA hval
  obtain ⟨v0, vs0, d0, ds0, p0, q0, hargs, rfl, rfl, h0, r0⟩ := trodAll_cons hA
  obtain ⟨v1, vs1, d1, ds1, p1, q1, rfl, rfl, rfl, h1, r1⟩ := trodAll_cons r0
  obtain ⟨v2, vs2, d2, ds2, p2, q2, rfl, rfl, rfl, h2, r2⟩ := trodAll_cons r1
  obtain ⟨rfl, rfl, rfl⟩ := trodAll_nil r2
  obtain rfl : args = #[v0, v1, v2] := by cases args; simp_all
  obtain ⟨rfl, rfl⟩ := trodVars_none hV
  obtain ⟨a0, len0, cap0, rfl⟩ := okWide_slice Tryd.underlying23 (hval 0 23 v0 rfl rfl)
  obtain ⟨z0, i0, hc0, hm0, _⟩ := open_nat h0
  obtain ⟨a1, rfl, rfl, rfl, w1⟩ := Go.ChangeMaps.open_string Tryd.underlying9 (hval 1 9 v1 rfl rfl) h1
  obtain ⟨a2, rfl, rfl, rfl, w2⟩ := open_int Tryd.underlying3 (hval 2 3 v2 rfl rfl) h2
  clear hA0 hval0
  simp only [List.append_nil] at hW'
  rw [MakeChecks.laidMetH_plain _ _ _ (by kernel_rfl)] at hL
  refine (walk a0 len0 cap0 z0 a1 a2 W i0 hc0 hm0 w1 w2 (tab_of hL)).mono fun e W' ⟨he, bel⟩ => ?_
  subst he
  exact ⟨_, rfl, _, _, _, [], _, [], hW', trodAll_mk1 (shut_bool Tryd.underlying4 _), (trodAll_cons_mk (Below.trod laidOut (by kernel_rfl) (of_decide_eq_true (by kernel_rfl)) h0 bel (places_lt h0)) (trodAll_cons_mk (Go.ChangeMaps.shut_string Tryd.underlying9 w1) (trodAll_cons_mk (shut_int Tryd.underlying3 w2) trodAll_mk0))), rfl, bel.frame _, fun h => by cases h⟩

theorem over : Rows.digitsTellRow.holds Tryd.pinned (OpenSpec.ofChange Rows.digitsTellSpec) :=
  OpenClaim.holds_of_wide 3 Tryd.f3 rfl rfl rfl rfl rfl rfl rfl ⟨rfl, rfl, rfl, rfl, rfl⟩ rfl rfl rfl rfl rfl (by kernel_rfl) Tryd.func3 (by kernel_rfl)
    (of_decide_eq_true (by kernel_rfl)) (by unfold Func.isWrapper; first | (rw [if_pos (by decide +kernel)]; kernel_rfl) | (rw [if_neg (by decide +kernel)]; exact ⟨rfl, rfl⟩))
    (fun os started H enc _ => lifted os started H enc)

theorem proved : Rows.DigitsTellCardSaid :=
  Claim7.holds_tied_plain_at .later [] Rows.digitsTellCard.laidKinds true Rows.digitsTellCard.stood.harness Rows.digitsTellCard.stood.looks
    over (fun _ h => by cases h) (by kernel_rfl) (fun _ h => by cases h) digitsTell_row_tie rfl ⟨rfl, rfl⟩ (by kernel_rfl) rfl
    (fun f fn hf hfn => by
      obtain rfl : f = 3 := Option.some.inj ((show Tryd.prog.funcNamed Rows.digitsTellRow.func = some 3 by kernel_rfl).symm.trans hf) |>.symm
      obtain rfl : fn = Tryd.f3 := (Option.some.inj (Tryd.func3.symm.trans hfn)).symm
      exact ⟨by kernel_rfl, fun j t ht => by
        have hm : t ∈ Tryd.f3.params.toList := by simpa using Array.mem_of_getElem? ht
        have hall : (Tryd.f3.params.toList.all fun u => !Tryd.prog.wantsStandIn u) = true := by kernel_rfl
        exact (show Tryd.prog.wantsStandIn t = false by simpa using List.all_eq_true.1 hall t hm)⟩)
    (by kernel_rfl)

end Go.Proofs.YtpkjooiddejgpaaDoor.lawDigitsTell
