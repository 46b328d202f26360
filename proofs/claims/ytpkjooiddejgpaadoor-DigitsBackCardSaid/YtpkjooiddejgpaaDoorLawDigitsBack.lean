/- Of any list of limbs: the number of its digits is it; noughts ahead change none; a digit behind is ten times, and it. No condition. -/
import Derived.Test.YtpkjooiddejgpaaDoorOpen
import Derived.Test.YtpkjooiddejgpaaDoorDigW
import Derived.Test.YtpkjooiddejgpaaDoorTab
import Derived.Test.YtpkjooiddejgpaaDoorCards
import Derived.Test.YtpkjooiddejgpaaDoorTie
import Derived.ChangeMaps5
import Derived.Lay
import Derived.SevenTiedAt
namespace Go.Proofs.YtpkjooiddejgpaaDoor.lawDigitsBack
open Go.ChangeShapes Go.WideShapes Go.ChangeAt Go.RowKit Limb
set_option linter.unusedVariables false

theorem wf_u8 {n : Int} (h : (Lit.int .u8 n).wf = true) : 0 ≤ n ∧ n < 256 := by
  have h1 : IntKind.u8.min = 0 := rfl
  have h2 : IntKind.u8.max = 255 := rfl
  simp only [Lit.wf, Bool.and_eq_true, decide_eq_true_eq] at h
  omega

theorem one_byte (y : Nat) (hy : y < 256) (W : World) : (convert 36 9 (.slice (some ⟨W.heap.size, 0, none⟩) 1 1)).run Tryd.prog (W.alloc (.cells #[Value.int IntKind.u8 (y : Int)] 5)) = .ok (.string (strOf [y])) (W.alloc (.cells #[Value.int IntKind.u8 (y : Int)] 5)) :=
  run_text ⟨rfl, bytes_cons.2 ⟨hy, bytes_nil⟩, fun _ => ⟨W.heap.size, 0, rfl, by simp, fun j hj => by
    obtain rfl : j = 0 := by omega
    rw [World.cell?_alloc_at _ _ _ _ rfl]; rfl⟩⟩ (by decide)

set_option maxHeartbeats 4000000 in
set_option maxRecDepth 4000 in
theorem walk (A_a : Option Addr) (n_a c_a : Nat) (xs_a : List Nat) (v_d : Int) (v_n : Int) (w : World) (i_a : IsN w A_a n_a xs_a) (hc_a : n_a ≤ c_a) (hm_a : c_a ≤ maxLen) (f_d : (Lit.int .u8 v_d).wf = true) (f_n : (Lit.int .u8 v_n).wf = true) (T : Tab w) :
    Calls Tryd.prog 4 #[.slice A_a n_a c_a, .int .u8 v_d, .int .u8 v_n] w fun e w' => e = .returned (.bool true) ∧ Below w.heap.size w w' := by
  have HTab := Lib.hid T
  clear T
  have bw := bel_refl w
  have hx_a : (n_a : Int) ≤ 9223372036854775807 := by have := Nat.le_trans hc_a hm_a; unfold maxLen at this; omega
  by_cases l_a : 60 < n_a
  · go_enter Tryd.func4, Tryd.ntmps4
    go_wp2_with fail
    refine (wakes_any w HTab.out).mono ?_
    rintro e w1 ⟨rfl, bn⟩
    replace HTab := Lib.hid (HTab.out.below bn)
    replace bw := below_two bw bn
    clear bn
    go_wp2
    go_ret
    exact ⟨rfl, bw⟩
  have h_a : NN w A_a n_a c_a xs_a (Limb.val xs_a) 60 := ⟨i_a, rfl, hc_a, by omega⟩
  obtain ⟨S, hS⟩ : ∃ S, strOf (decT (Limb.val xs_a)) = S := ⟨_, rfl⟩
  have zS : S.size = (decT (Limb.val xs_a)).length := by rw [← hS, size_strOf]
  have mS : S.size ≤ 601 := by rw [zS]; exact decT_len_limbs (L := 60) (lt_pow h_a)
  have pS : 1 ≤ S.size := by rw [zS]; exact decT_pos _
  have bS : RowKit.Hid (bytesOf S = decT (Limb.val xs_a)) := by show _ = _; rw [← hS, bytesOf_dec]
  have HS := Lib.hid hS
  obtain ⟨D, rfl⟩ := Int.eq_ofNat_of_zero_le (wf_u8 f_d).1
  obtain ⟨N, rfl⟩ := Int.eq_ofNat_of_zero_le (wf_u8 f_n).1
  have hD : D < 256 := by have := (wf_u8 f_d).2; omega
  have hN : N < 256 := by have := (wf_u8 f_n).2; omega
  obtain ⟨r, hr⟩ : ∃ r, r = D % 10 := ⟨_, rfl⟩
  obtain ⟨k, hk⟩ : ∃ k, k = N % 20 := ⟨_, rfl⟩
  have er : (D : Int) % 10 = (r : Int) := by omega
  have ek : (N : Int) % 20 = (k : Int) := by omega
  have hr9 : r ≤ 9 := by omega
  have hk19 : k ≤ 19 := by omega
  have e48 : (48 : Int) + (r : Int) = ((48 + r : Nat) : Int) := by omega
  obtain ⟨y, hy⟩ : ∃ y, 48 + r = y := ⟨_, rfl⟩
  have hconv := one_byte y (by omega)
  rw [hy] at e48
  have Ok1 : RowKit.Hid (numOk (bytesOf S) = true) := by show _ = _; rw [bS.out]; exact numOk_dec (by omega)
  have Nv1 : RowKit.Hid (numV (bytesOf S) = (Limb.val xs_a)) := by show _ = _; rw [numV_yes Ok1.out, bS.out, decV_decT]
  have Ok2 : RowKit.Hid (numOk (bytesOf (nzS k ++ S)) = true) := by
    show _ = _
    rw [bytesOf_append, bytesOf_nzS, bS.out]
    exact numOk_good (by rw [List.length_append]; omega) (by rw [List.length_append, List.length_replicate]; omega) (by rw [allDig_append, allDig_zeros, decT_dig]; rfl)
  have Nv2 : RowKit.Hid (numV (bytesOf (nzS k ++ S)) = (Limb.val xs_a)) := by show _ = _; rw [numV_yes Ok2.out, bytesOf_append, bytesOf_nzS, bS.out, decV_zeros, decV_decT]
  have eb : RowKit.Hid (bytesOf (S ++ strOf [y]) = decT (Limb.val xs_a) ++ [y]) := by show _ = _; rw [bytesOf_append, bS.out, bytesOf_strOf (bytes_cons.2 ⟨by omega, bytes_nil⟩)]
  have Ok3 : RowKit.Hid (numOk (bytesOf (S ++ strOf [y])) = true) := by
    show _ = _
    rw [eb.out]
    exact numOk_good (by rw [List.length_append]; omega) (by rw [List.length_append]; simp; omega) (by rw [allDig_append, decT_dig]; exact allDig_iff.2 fun x hx => by simp at hx; omega)
  have Nv3 : RowKit.Hid (numV (bytesOf (S ++ strOf [y])) = (Limb.val xs_a) * 10 + r) := by
    show _ = _
    rw [numV_yes Ok3.out, eb.out, decV_snoc, decV_decT, ← hy, Nat.add_sub_cancel_left]
  obtain ⟨X, hX⟩ : ∃ X, strOf (decT (10 ^ k)) = X := ⟨_, rfl⟩
  have HX := Lib.hid hX
  have heq : (X.toList == ((⟨#[49]⟩ : ByteArray) ++ nzS k).toList) = true := by rw [one_nzS, hX, beq_self_str]
  have zy : (strOf [y]).size = 1 := size_strOf _
  have Hr := Lib.hid hr
  have zk := size_nzS k
  have He0 : ((S.size : Int) == 0) = false := by rw [beq_eq_false_iff_ne]; omega
  have Hnz := Lib.hid (decT_spec (Limb.val xs_a))
  have HzS := Lib.hid zS
  clear hS zS hX hr hk hy f_d f_n eb
  by_cases h1 : S.size ≤ 1
  · have hone : ¬ (1 : Int) < (S.size : Int) := by omega
    go_enter Tryd.func4, Tryd.ntmps4
    go_wp2_with fail
    refine (digText_c HTab.out h_a (by decide) S HS.out).mono ?_
    rintro e w1 ⟨rfl, bn⟩
    replace h_a := h_a.below bn
    replace HTab := Lib.hid (HTab.out.below bn)
    replace bw := below_two bw bn
    clear bn
    go_wp2_with fail
    refine (digParse_c S w1 HTab.out true Ok1.out _ Nv1.out).mono ?_
    rintro e w2 ⟨A_b, n_b, c_b, rfl, h_b, bn⟩
    replace h_a := h_a.below bn
    replace HTab := Lib.hid (HTab.out.below bn)
    replace bw := below_two bw bn
    clear bn
    go_wp2_with fail
    refine (trim_c h_a (by decide)).mono ?_
    rintro e w3 ⟨A_u, n_u, c_u, rfl, h_u, bn⟩
    replace h_a := h_a.below bn
    replace h_b := h_b.below bn
    replace HTab := Lib.hid (HTab.out.below bn)
    replace bw := below_two bw bn
    clear bn
    go_wp2_with fail
    refine (keep_c h_b h_u (by decide) (by decide) true (same_limbs rfl)).mono ?_
    rintro e w4 ⟨rfl, bn⟩
    replace h_a := h_a.below bn
    replace h_b := h_b.below bn
    replace h_u := h_u.below bn
    replace HTab := Lib.hid (HTab.out.below bn)
    replace bw := below_two bw bn
    clear bn
    clear h_u
    go_wp2
    go_loop [11, 10] (fun iv sv => ∃ i : Nat, i ≤ k ∧ iv = .int .i64 (i : Int) ∧ sv = .string (nzS i)) (fun iv _ => (20 - intOf iv).toNat)
    case atStart => exact ⟨0, Nat.zero_le _, rfl, rfl⟩
    case round =>
      obtain ⟨i, hi, rfl, rfl⟩ := hrel
      by_cases hik : i < k
      · have hz := size_nzS i
        have hs := nzS_succ i
        go_wp2
        go_round
        case rel => exact ⟨i + 1, by omega, by go_num, rfl⟩
        case measure => simp [intOf]; omega
      · obtain rfl : i = k := by omega
        go_wp2_with fail
        refine (digParse_c _ w4 HTab.out true Ok2.out _ Nv2.out).mono ?_
        rintro e w5 ⟨A_c, n_c, c_c, rfl, h_c, bn⟩
        replace h_a := h_a.below bn
        replace h_b := h_b.below bn
        replace HTab := Lib.hid (HTab.out.below bn)
        replace bw := below_two bw bn
        clear bn
        go_wp2_with fail
        have bn := below_new w5 (.cells #[Value.int IntKind.u8 (y : Int)] 5)
        replace h_a := h_a.below bn
        replace h_b := h_b.below bn
        replace h_c := h_c.below bn
        replace HTab := Lib.hid (HTab.out.below bn)
        replace bw := below_two bw bn
        clear bn
        refine (digParse_c _ _ HTab.out true Ok3.out _ Nv3.out).mono ?_
        rintro e w6 ⟨A_e, n_e, c_e, rfl, h_e, bn⟩
        replace h_a := h_a.below bn
        replace h_b := h_b.below bn
        replace h_c := h_c.below bn
        replace HTab := Lib.hid (HTab.out.below bn)
        replace bw := below_two bw bn
        clear bn
        go_wp2_with fail
        refine (keep_c h_c h_b (by decide) (by decide) true (same_limbs rfl)).mono ?_
        rintro e w7 ⟨rfl, bn⟩
        replace h_a := h_a.below bn
        replace h_b := h_b.below bn
        replace h_c := h_c.below bn
        replace h_e := h_e.below bn
        replace HTab := Lib.hid (HTab.out.below bn)
        replace bw := below_two bw bn
        clear bn
        clear h_c h_b
        go_wp2_with fail
        refine (mulSmall_c h_a 10 10 rfl (by decide) (by decide)).mono ?_
        rintro e w8 ⟨A_m, n_m, c_m, rfl, h_m, bn⟩
        replace h_a := h_a.below bn
        replace h_e := h_e.below bn
        replace HTab := Lib.hid (HTab.out.below bn)
        replace bw := below_two bw bn
        clear bn
        go_wp2_with fail
        refine (of_c r _ rfl (by omega) w8).mono ?_
        rintro e w9 ⟨A_o, n_o, c_o, rfl, h_o, bn⟩
        replace h_a := h_a.below bn
        replace h_e := h_e.below bn
        replace h_m := h_m.below bn
        replace HTab := Lib.hid (HTab.out.below bn)
        replace bw := below_two bw bn
        clear bn
        go_wp2_with fail
        refine (add_c h_m h_o 62 (by decide) (by decide) (by decide)).mono ?_
        rintro e w10 ⟨A_s, n_s, c_s, rfl, h_s, bn⟩
        replace h_a := h_a.below bn
        replace h_e := h_e.below bn
        replace h_m := h_m.below bn
        replace h_o := h_o.below bn
        replace HTab := Lib.hid (HTab.out.below bn)
        replace bw := below_two bw bn
        clear bn
        clear h_m h_o
        go_wp2_with fail
        refine (keep_c h_e h_s (by decide) (by decide) true (same_limbs rfl)).mono ?_
        rintro e w11 ⟨rfl, bn⟩
        replace h_a := h_a.below bn
        replace h_e := h_e.below bn
        replace h_s := h_s.below bn
        replace HTab := Lib.hid (HTab.out.below bn)
        replace bw := below_two bw bn
        clear bn
        clear h_e h_s
        go_wp2_with fail
        refine (digTen_yes i _ rfl (by omega) w11 HTab.out).mono ?_
        rintro e w12 ⟨A_t, n_t, c_t, rfl, h_t, bn⟩
        replace h_a := h_a.below bn
        replace HTab := Lib.hid (HTab.out.below bn)
        replace bw := below_two bw bn
        clear bn
        go_wp2_with fail
        refine (digText_c HTab.out h_t (by decide) X HX.out).mono ?_
        rintro e w13 ⟨rfl, bn⟩
        replace h_a := h_a.below bn
        replace h_t := h_t.below bn
        replace HTab := Lib.hid (HTab.out.below bn)
        replace bw := below_two bw bn
        clear bn
        clear h_t
        go_wp2_with fail
        refine (wakes_any w13 HTab.out).mono ?_
        rintro e w14 ⟨rfl, bn⟩
        replace h_a := h_a.below bn
        replace HTab := Lib.hid (HTab.out.below bn)
        replace bw := below_two bw bn
        clear bn
        go_wp2
        go_ret
        exact ⟨rfl, bw⟩
  · have hone : (1 : Int) < (S.size : Int) := by omega
    have hlt : 0 < S.size := by omega
    obtain ⟨c, hc⟩ : ∃ c, (S[0]'hlt).toNat = c := ⟨_, rfl⟩
    have hc48 : ((c : Int) == 48) = false := by
      have h2 := byte_at S 0 hlt
      rw [hc, bS.out] at h2
      have h3 := Hnz.out.2.2.2 (by intro e; rw [e, decT_zero] at HzS; have := HzS.out; simp at this; omega)
      simp; omega
    go_enter Tryd.func4, Tryd.ntmps4
    go_wp2_with fail
    refine (digText_c HTab.out h_a (by decide) S HS.out).mono ?_
    rintro e w1 ⟨rfl, bn⟩
    replace h_a := h_a.below bn
    replace HTab := Lib.hid (HTab.out.below bn)
    replace bw := below_two bw bn
    clear bn
    go_wp2_with fail
    refine (digParse_c S w1 HTab.out true Ok1.out _ Nv1.out).mono ?_
    rintro e w2 ⟨A_b, n_b, c_b, rfl, h_b, bn⟩
    replace h_a := h_a.below bn
    replace HTab := Lib.hid (HTab.out.below bn)
    replace bw := below_two bw bn
    clear bn
    go_wp2_with fail
    refine (trim_c h_a (by decide)).mono ?_
    rintro e w3 ⟨A_u, n_u, c_u, rfl, h_u, bn⟩
    replace h_a := h_a.below bn
    replace h_b := h_b.below bn
    replace HTab := Lib.hid (HTab.out.below bn)
    replace bw := below_two bw bn
    clear bn
    go_wp2_with fail
    refine (keep_c h_b h_u (by decide) (by decide) true (same_limbs rfl)).mono ?_
    rintro e w4 ⟨rfl, bn⟩
    replace h_a := h_a.below bn
    replace h_b := h_b.below bn
    replace h_u := h_u.below bn
    replace HTab := Lib.hid (HTab.out.below bn)
    replace bw := below_two bw bn
    clear bn
    clear h_u
    go_wp2
    go_loop [11, 10] (fun iv sv => ∃ i : Nat, i ≤ k ∧ iv = .int .i64 (i : Int) ∧ sv = .string (nzS i)) (fun iv _ => (20 - intOf iv).toNat)
    case atStart => exact ⟨0, Nat.zero_le _, rfl, rfl⟩
    case round =>
      obtain ⟨i, hi, rfl, rfl⟩ := hrel
      by_cases hik : i < k
      · have hz := size_nzS i
        have hs := nzS_succ i
        go_wp2
        go_round
        case rel => exact ⟨i + 1, by omega, by go_num, rfl⟩
        case measure => simp [intOf]; omega
      · obtain rfl : i = k := by omega
        go_wp2_with fail
        refine (digParse_c _ w4 HTab.out true Ok2.out _ Nv2.out).mono ?_
        rintro e w5 ⟨A_c, n_c, c_c, rfl, h_c, bn⟩
        replace h_a := h_a.below bn
        replace h_b := h_b.below bn
        replace HTab := Lib.hid (HTab.out.below bn)
        replace bw := below_two bw bn
        clear bn
        go_wp2_with fail
        have bn := below_new w5 (.cells #[Value.int IntKind.u8 (y : Int)] 5)
        replace h_a := h_a.below bn
        replace h_b := h_b.below bn
        replace h_c := h_c.below bn
        replace HTab := Lib.hid (HTab.out.below bn)
        replace bw := below_two bw bn
        clear bn
        refine (digParse_c _ _ HTab.out true Ok3.out _ Nv3.out).mono ?_
        rintro e w6 ⟨A_e, n_e, c_e, rfl, h_e, bn⟩
        replace h_a := h_a.below bn
        replace h_b := h_b.below bn
        replace h_c := h_c.below bn
        replace HTab := Lib.hid (HTab.out.below bn)
        replace bw := below_two bw bn
        clear bn
        go_wp2_with fail
        refine (keep_c h_c h_b (by decide) (by decide) true (same_limbs rfl)).mono ?_
        rintro e w7 ⟨rfl, bn⟩
        replace h_a := h_a.below bn
        replace h_b := h_b.below bn
        replace h_c := h_c.below bn
        replace h_e := h_e.below bn
        replace HTab := Lib.hid (HTab.out.below bn)
        replace bw := below_two bw bn
        clear bn
        clear h_c h_b
        go_wp2_with fail
        refine (mulSmall_c h_a 10 10 rfl (by decide) (by decide)).mono ?_
        rintro e w8 ⟨A_m, n_m, c_m, rfl, h_m, bn⟩
        replace h_a := h_a.below bn
        replace h_e := h_e.below bn
        replace HTab := Lib.hid (HTab.out.below bn)
        replace bw := below_two bw bn
        clear bn
        go_wp2_with fail
        refine (of_c r _ rfl (by omega) w8).mono ?_
        rintro e w9 ⟨A_o, n_o, c_o, rfl, h_o, bn⟩
        replace h_a := h_a.below bn
        replace h_e := h_e.below bn
        replace h_m := h_m.below bn
        replace HTab := Lib.hid (HTab.out.below bn)
        replace bw := below_two bw bn
        clear bn
        go_wp2_with fail
        refine (add_c h_m h_o 62 (by decide) (by decide) (by decide)).mono ?_
        rintro e w10 ⟨A_s, n_s, c_s, rfl, h_s, bn⟩
        replace h_a := h_a.below bn
        replace h_e := h_e.below bn
        replace h_m := h_m.below bn
        replace h_o := h_o.below bn
        replace HTab := Lib.hid (HTab.out.below bn)
        replace bw := below_two bw bn
        clear bn
        clear h_m h_o
        go_wp2_with fail
        refine (keep_c h_e h_s (by decide) (by decide) true (same_limbs rfl)).mono ?_
        rintro e w11 ⟨rfl, bn⟩
        replace h_a := h_a.below bn
        replace h_e := h_e.below bn
        replace h_s := h_s.below bn
        replace HTab := Lib.hid (HTab.out.below bn)
        replace bw := below_two bw bn
        clear bn
        clear h_e h_s
        go_wp2_with fail
        refine (digTen_yes i _ rfl (by omega) w11 HTab.out).mono ?_
        rintro e w12 ⟨A_t, n_t, c_t, rfl, h_t, bn⟩
        replace h_a := h_a.below bn
        replace HTab := Lib.hid (HTab.out.below bn)
        replace bw := below_two bw bn
        clear bn
        go_wp2_with fail
        refine (digText_c HTab.out h_t (by decide) X HX.out).mono ?_
        rintro e w13 ⟨rfl, bn⟩
        replace h_a := h_a.below bn
        replace h_t := h_t.below bn
        replace HTab := Lib.hid (HTab.out.below bn)
        replace bw := below_two bw bn
        clear bn
        clear h_t
        go_wp2_with fail
        refine (wakes_any w13 HTab.out).mono ?_
        rintro e w14 ⟨rfl, bn⟩
        replace h_a := h_a.below bn
        replace HTab := Lib.hid (HTab.out.below bn)
        replace bw := below_two bw bn
        clear bn
        go_wp2
        go_ret
        exact ⟨rfl, bw⟩

theorem tab_of {W : World} (h : laidMet Tryd.prog Rows.digitsBackRow.laid W) : Tab W := by
  refine ⟨?_, ?_⟩
  · first | exact powers_tab (laidMet_drop 0 h) (by decide +kernel) | exact powers_tab (laidMet_drop 1 h) (by decide +kernel) | exact powers_tab (laidMet_drop 2 h) (by decide +kernel) | exact powers_tab (laidMet_drop 3 h) (by decide +kernel) | exact powers_tab (laidMet_drop 4 h) (by decide +kernel) | exact powers_tab (laidMet_drop 5 h) (by decide +kernel) | exact powers_tab (laidMet_drop 6 h) (by decide +kernel) | exact powers_tab (laidMet_drop 7 h) (by decide +kernel) | exact powers_tab (laidMet_drop 8 h) (by decide +kernel) | exact powers_tab (laidMet_drop 9 h) (by decide +kernel) | exact powers_tab (laidMet_drop 10 h) (by decide +kernel) | exact powers_tab (laidMet_drop 11 h) (by decide +kernel) | exact powers_tab (laidMet_drop 12 h) (by decide +kernel) | exact powers_tab (laidMet_drop 13 h) (by decide +kernel)
  · first | exact err_tab (laidMet_drop 0 h) (by decide +kernel) | exact err_tab (laidMet_drop 1 h) (by decide +kernel) | exact err_tab (laidMet_drop 2 h) (by decide +kernel) | exact err_tab (laidMet_drop 3 h) (by decide +kernel) | exact err_tab (laidMet_drop 4 h) (by decide +kernel) | exact err_tab (laidMet_drop 5 h) (by decide +kernel) | exact err_tab (laidMet_drop 6 h) (by decide +kernel) | exact err_tab (laidMet_drop 7 h) (by decide +kernel) | exact err_tab (laidMet_drop 8 h) (by decide +kernel) | exact err_tab (laidMet_drop 9 h) (by decide +kernel) | exact err_tab (laidMet_drop 10 h) (by decide +kernel) | exact err_tab (laidMet_drop 11 h) (by decide +kernel) | exact err_tab (laidMet_drop 12 h) (by decide +kernel) | exact err_tab (laidMet_drop 13 h) (by decide +kernel)

set_option maxRecDepth 100000 in
theorem lifted (os : Os) (started : os.Started) (H : Type) (enc : TypeId × Value → H) :
    ReturnsInHanded {} Tryd.checked os 4 .any (fun w args => (Rows.digitsBackSpec.pre enc Tryd.prog Tryd.f4 [] false w args ∧ laidMetH Tryd.prog Rows.digitsBackRow.laid w) ∧ sizedMet enc Tryd.prog Tryd.f4 (OpenSpec.ofChange Rows.digitsBackSpec) false w args)
      (Rows.digitsBackSpec.post enc Tryd.prog Tryd.f4 false true false false) := by
  refine returnsInHanded_of_change_and (C := Tryd.checked) (X := fun w _ => laidMetH Tryd.prog Rows.digitsBackRow.laid w) (fun _ _ _ hh h => h.of_heap hh) own started (by kernel_rfl) Tryd.func4
    (ChangeSpec.witness_shaped (enc := enc) (C := Tryd.checked) (os := os) (X := fun w _ => laidMetH Tryd.prog Rows.digitsBackRow.laid w) false (World.laidAll Tryd.prog os Rows.digitsBackRow.laid) #[.slice none 0 0, .int .u8 0, .int .u8 0] 8 (World.laidAll_os _ _ _)
      (World.shaped_of_ZipB (by kernel_rfl) (by kernel_rfl)) (by kernel_rfl) (by kernel_rfl) (by kernel_rfl)
      (by rw [MakeChecks.laidMetH_plain _ _ _ (by kernel_rfl)]; exact laidMet_laidAll _ (by kernel_rfl) (by kernel_rfl))) ?_
  intro W base args ds gs before hval0 hW _ _ hL _
  have hval : ∀ (j : Nat) t v, Tryd.f4.params[j]? = some t → args[j]? = some v → Value.okWide Tryd.prog W .any base t v := hval0
  have hW' := hW
  obtain ⟨p, q, hA0, hV, rfl, hfz, hnd⟩ := hW
  have hA : DataW.TrodAll enc Tryd.prog W 0 (fun _ => true) true Tryd.f4.params.toList args.toList ds p := hA0
  rw [Tryd.params4] at hA hval
  obtain ⟨v0, vs0, d0, ds0, p0, q0, hargs, rfl, rfl, h0, r0⟩ := trodAll_cons hA
  obtain ⟨v1, vs1, d1, ds1, p1, q1, rfl, rfl, rfl, h1, r1⟩ := trodAll_cons r0
  obtain ⟨v2, vs2, d2, ds2, p2, q2, rfl, rfl, rfl, h2, r2⟩ := trodAll_cons r1
  obtain ⟨rfl, rfl, rfl⟩ := trodAll_nil r2
  obtain rfl : args = #[v0, v1, v2] := by cases args; simp_all
  obtain ⟨rfl, rfl⟩ := trodVars_none hV
  obtain ⟨a0, len0, cap0, rfl⟩ := okWide_slice Tryd.underlying23 (hval 0 23 v0 rfl rfl)
  obtain ⟨z0, i0, hc0, hm0, _⟩ := open_nat h0
  obtain ⟨a1, rfl, rfl, rfl, w1⟩ := open_int Tryd.underlying5 (hval 1 5 v1 rfl rfl) h1
  obtain ⟨a2, rfl, rfl, rfl, w2⟩ := open_int Tryd.underlying5 (hval 2 5 v2 rfl rfl) h2
  clear hA0 hval0
  simp only [List.append_nil] at hW'
  rw [MakeChecks.laidMetH_plain _ _ _ (by kernel_rfl)] at hL
  refine (walk a0 len0 cap0 z0 a1 a2 W i0 hc0 hm0 w1 w2 (tab_of hL)).mono fun e W' ⟨he, bel⟩ => ?_
  subst he
  exact ⟨_, rfl, _, _, _, [], _, [], hW', trodAll_mk1 (shut_bool Tryd.underlying4 _), (trodAll_cons_mk (Below.trod laidOut (by kernel_rfl) (of_decide_eq_true (by kernel_rfl)) h0 bel (places_lt h0)) (trodAll_cons_mk (shut_int Tryd.underlying5 w1) (trodAll_cons_mk (shut_int Tryd.underlying5 w2) trodAll_mk0))), rfl, bel.frame _, fun h => by cases h⟩

theorem over : Rows.digitsBackRow.holds Tryd.pinned (OpenSpec.ofChange Rows.digitsBackSpec) :=
  OpenClaim.holds_of_wide 4 Tryd.f4 rfl rfl rfl rfl rfl rfl rfl ⟨rfl, rfl, rfl, rfl, rfl⟩ rfl rfl rfl rfl rfl (by kernel_rfl) Tryd.func4 (by kernel_rfl)
    (of_decide_eq_true (by kernel_rfl)) (by unfold Func.isWrapper; first | (rw [if_pos (by decide +kernel)]; kernel_rfl) | (rw [if_neg (by decide +kernel)]; exact ⟨rfl, rfl⟩))
    (fun os started H enc _ => lifted os started H enc)

theorem proved : Rows.DigitsBackCardSaid :=
  Claim7.holds_tied_plain_at .later [] Rows.digitsBackCard.laidKinds true Rows.digitsBackCard.stood.harness Rows.digitsBackCard.stood.looks
    over (fun _ h => by cases h) (by kernel_rfl) (fun _ h => by cases h) digitsBack_row_tie rfl ⟨rfl, rfl⟩ (by kernel_rfl) rfl
    (fun f fn hf hfn => by
      obtain rfl : f = 4 := Option.some.inj ((show Tryd.prog.funcNamed Rows.digitsBackRow.func = some 4 by kernel_rfl).symm.trans hf) |>.symm
      obtain rfl : fn = Tryd.f4 := (Option.some.inj (Tryd.func4.symm.trans hfn)).symm
      exact ⟨by kernel_rfl, fun j t ht => by
        have hm : t ∈ Tryd.f4.params.toList := by simpa using Array.mem_of_getElem? ht
        have hall : (Tryd.f4.params.toList.all fun u => !Tryd.prog.wantsStandIn u) = true := by kernel_rfl
        exact (show Tryd.prog.wantsStandIn t = false by simpa using List.all_eq_true.1 hall t hm)⟩)
    (by kernel_rfl)

end Go.Proofs.YtpkjooiddejgpaaDoor.lawDigitsBack
