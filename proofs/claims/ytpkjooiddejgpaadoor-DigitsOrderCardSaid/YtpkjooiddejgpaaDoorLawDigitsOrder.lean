/- Of any two lists of limbs: the greater number has more digits, or, of as many, the text that stands behind. No condition. -/
import Derived.Test.YtpkjooiddejgpaaDoorOpen
import Derived.Test.YtpkjooiddejgpaaDoorDigW
import Derived.Test.YtpkjooiddejgpaaDoorTab
import Derived.Test.YtpkjooiddejgpaaDoorCards
import Derived.Test.YtpkjooiddejgpaaDoorTie
import Derived.ChangeMaps5
import Derived.Lay
import Derived.SevenTiedAt
namespace Go.Proofs.YtpkjooiddejgpaaDoor.lawDigitsOrder
open Go.ChangeShapes Go.WideShapes Go.ChangeAt Go.RowKit Limb
set_option linter.unusedVariables false

set_option maxHeartbeats 4000000 in
set_option maxRecDepth 4000 in
theorem walk (A_a : Option Addr) (n_a c_a : Nat) (xs_a : List Nat) (A_b : Option Addr) (n_b c_b : Nat) (xs_b : List Nat) (w : World) (i_a : IsN w A_a n_a xs_a) (hc_a : n_a ≤ c_a) (hm_a : c_a ≤ maxLen) (i_b : IsN w A_b n_b xs_b) (hc_b : n_b ≤ c_b) (hm_b : c_b ≤ maxLen) (T : Tab w) :
    Calls Tryd.prog 5 #[.slice A_a n_a c_a, .slice A_b n_b c_b] w fun e w' => e = .returned (.bool true) ∧ Below w.heap.size w w' := by
  have HTab := Lib.hid T
  clear T
  have bw := bel_refl w
  have hx_a : (n_a : Int) ≤ 9223372036854775807 := by have := Nat.le_trans hc_a hm_a; unfold maxLen at this; omega
  have hx_b : (n_b : Int) ≤ 9223372036854775807 := by have := Nat.le_trans hc_b hm_b; unfold maxLen at this; omega
  by_cases l_a : 60 < n_a
  · go_enter Tryd.func5, Tryd.ntmps5
    go_wp2_with fail
    refine (wakes_any w HTab.out).mono ?_
    rintro e w1 ⟨rfl, bn⟩
    replace HTab := Lib.hid (HTab.out.below bn)
    replace bw := below_two bw bn
    clear bn
    go_wp2
    go_ret
    exact ⟨rfl, bw⟩
  by_cases l_b : 60 < n_b
  · go_enter Tryd.func5, Tryd.ntmps5
    go_wp2_with fail
    refine (wakes_any w HTab.out).mono ?_
    rintro e w1 ⟨rfl, bn⟩
    replace HTab := Lib.hid (HTab.out.below bn)
    replace bw := below_two bw bn
    clear bn
    go_wp2
    go_ret
    exact ⟨rfl, bw⟩
  have h_a : NN w A_a n_a c_a xs_a (Limb.val xs_a) 60 := ⟨i_a, rfl, hc_a, by omega⟩
  have h_b : NN w A_b n_b c_b xs_b (Limb.val xs_b) 60 := ⟨i_b, rfl, hc_b, by omega⟩
  obtain ⟨S, hS⟩ : ∃ S, strOf (decT (Limb.val xs_a)) = S := ⟨_, rfl⟩
  have zS : S.size = (decT (Limb.val xs_a)).length := by rw [← hS, size_strOf]
  have mS : S.size ≤ 601 := by rw [zS]; exact decT_len_limbs (L := 60) (lt_pow h_a)
  have pS : 1 ≤ S.size := by rw [zS]; exact decT_pos _
  have bS : RowKit.Hid (bytesOf S = decT (Limb.val xs_a)) := by show _ = _; rw [← hS, bytesOf_dec]
  have HS := Lib.hid hS
  obtain ⟨T, hT⟩ : ∃ T, strOf (decT (Limb.val xs_b)) = T := ⟨_, rfl⟩
  have zT : T.size = (decT (Limb.val xs_b)).length := by rw [← hT, size_strOf]
  have mT : T.size ≤ 601 := by rw [zT]; exact decT_len_limbs (L := 60) (lt_pow h_b)
  have pT : 1 ≤ T.size := by rw [zT]; exact decT_pos _
  have bT : RowKit.Hid (bytesOf T = decT (Limb.val xs_b)) := by show _ = _; rw [← hT, bytesOf_dec]
  have HT := Lib.hid hT
  rcases Nat.lt_trichotomy (Limb.val xs_a) (Limb.val xs_b) with hcase | hcase | hcase
  · have hmono := decT_len_mono (Nat.le_of_lt hcase)
    rcases Nat.lt_or_ge S.size T.size with hl | hl
    · clear hmono
      have Hv := Lib.hid (cmpI_lt hcase)
      have hl2 : decide ((S.size : Int) < (T.size : Int)) = true := by simp; omega
      clear hS hT zS zT pS pT hcase
      go_enter Tryd.func5, Tryd.ntmps5
      go_wp2_with fail
      refine (digText_c HTab.out h_a (by decide) S HS.out).mono ?_
      rintro e w1 ⟨rfl, bn⟩
      replace h_a := h_a.below bn
      replace h_b := h_b.below bn
      replace HTab := Lib.hid (HTab.out.below bn)
      replace bw := below_two bw bn
      clear bn
      go_wp2_with fail
      refine (digText_c HTab.out h_b (by decide) T HT.out).mono ?_
      rintro e w2 ⟨rfl, bn⟩
      replace h_a := h_a.below bn
      replace h_b := h_b.below bn
      replace HTab := Lib.hid (HTab.out.below bn)
      replace bw := below_two bw bn
      clear bn
      go_wp2_with fail
      refine (cmp_c h_a h_b (by decide) (by decide) (-1) Hv.out).mono ?_
      rintro e w3 ⟨rfl, bn⟩
      replace h_a := h_a.below bn
      replace h_b := h_b.below bn
      replace HTab := Lib.hid (HTab.out.below bn)
      replace bw := below_two bw bn
      clear bn
      go_wp2_with fail
      refine (wakes_any w3 HTab.out).mono ?_
      rintro e w4 ⟨rfl, bn⟩
      replace h_a := h_a.below bn
      replace h_b := h_b.below bn
      replace HTab := Lib.hid (HTab.out.below bn)
      replace bw := below_two bw bn
      clear bn
      go_wp2
      go_ret
      exact ⟨rfl, bw⟩
    · have he : S.size = T.size := by omega
      have Hv := Lib.hid (cmpI_lt hcase)
      have hb : Op.bytesLess S.toList T.toList = true := by rw [← hS, ← hT, str_less (decT_bytes _) (decT_bytes _), lessB_dec (decT_dig _) (decT_dig _) (by omega), decV_decT, decV_decT]; simp; omega
      have he2 : ((S.size : Int) == (T.size : Int)) = true := by simp; omega
      clear hmono he
      clear hS hT zS zT pS pT hcase
      go_enter Tryd.func5, Tryd.ntmps5
      go_wp2_with fail
      refine (digText_c HTab.out h_a (by decide) S HS.out).mono ?_
      rintro e w1 ⟨rfl, bn⟩
      replace h_a := h_a.below bn
      replace h_b := h_b.below bn
      replace HTab := Lib.hid (HTab.out.below bn)
      replace bw := below_two bw bn
      clear bn
      go_wp2_with fail
      refine (digText_c HTab.out h_b (by decide) T HT.out).mono ?_
      rintro e w2 ⟨rfl, bn⟩
      replace h_a := h_a.below bn
      replace h_b := h_b.below bn
      replace HTab := Lib.hid (HTab.out.below bn)
      replace bw := below_two bw bn
      clear bn
      go_wp2_with fail
      refine (cmp_c h_a h_b (by decide) (by decide) (-1) Hv.out).mono ?_
      rintro e w3 ⟨rfl, bn⟩
      replace h_a := h_a.below bn
      replace h_b := h_b.below bn
      replace HTab := Lib.hid (HTab.out.below bn)
      replace bw := below_two bw bn
      clear bn
      go_wp2_with fail
      refine (wakes_any w3 HTab.out).mono ?_
      rintro e w4 ⟨rfl, bn⟩
      replace h_a := h_a.below bn
      replace h_b := h_b.below bn
      replace HTab := Lib.hid (HTab.out.below bn)
      replace bw := below_two bw bn
      clear bn
      go_wp2
      go_ret
      exact ⟨rfl, bw⟩
  · have e : T = S := by rw [← hS, ← hT, hcase]
    subst e
    have Hv := Lib.hid (cmpI_same hcase)
    have hb : Op.bytesLess T.toList T.toList = false := by rw [← hS, str_less (decT_bytes _) (decT_bytes _), lessB_dec (decT_dig _) (decT_dig _) rfl]; simp
    clear hS hT zS zT pS pT hcase
    go_enter Tryd.func5, Tryd.ntmps5
    go_wp2_with fail
    refine (digText_c HTab.out h_a (by decide) T HS.out).mono ?_
    rintro e w1 ⟨rfl, bn⟩
    replace h_a := h_a.below bn
    replace h_b := h_b.below bn
    replace HTab := Lib.hid (HTab.out.below bn)
    replace bw := below_two bw bn
    clear bn
    go_wp2_with fail
    refine (digText_c HTab.out h_b (by decide) T HT.out).mono ?_
    rintro e w2 ⟨rfl, bn⟩
    replace h_a := h_a.below bn
    replace h_b := h_b.below bn
    replace HTab := Lib.hid (HTab.out.below bn)
    replace bw := below_two bw bn
    clear bn
    go_wp2_with fail
    refine (cmp_c h_a h_b (by decide) (by decide) 0 Hv.out).mono ?_
    rintro e w3 ⟨rfl, bn⟩
    replace h_a := h_a.below bn
    replace h_b := h_b.below bn
    replace HTab := Lib.hid (HTab.out.below bn)
    replace bw := below_two bw bn
    clear bn
    go_wp2_with fail
    refine (wakes_any w3 HTab.out).mono ?_
    rintro e w4 ⟨rfl, bn⟩
    replace h_a := h_a.below bn
    replace h_b := h_b.below bn
    replace HTab := Lib.hid (HTab.out.below bn)
    replace bw := below_two bw bn
    clear bn
    go_wp2
    go_ret
    exact ⟨rfl, bw⟩
  · have hmono := decT_len_mono (Nat.le_of_lt hcase)
    rcases Nat.lt_or_ge T.size S.size with hl | hl
    · have Hv := Lib.hid (cmpI_gt hcase)
      have hq : (S.toList == T.toList) = false := by rw [← hS, ← hT, str_beq (decT_bytes _) (decT_bytes _), decide_eq_false_iff_not]; exact fun e => absurd (decT_inj e) (by omega)
      have hl3 : T.size ≤ S.size := Nat.le_of_lt hl
      have he2 : ((S.size : Int) == (T.size : Int)) = false := by simp; omega
      clear hmono
      clear hS hT zS zT pS pT hcase
      go_enter Tryd.func5, Tryd.ntmps5
      go_wp2_with fail
      refine (digText_c HTab.out h_a (by decide) S HS.out).mono ?_
      rintro e w1 ⟨rfl, bn⟩
      replace h_a := h_a.below bn
      replace h_b := h_b.below bn
      replace HTab := Lib.hid (HTab.out.below bn)
      replace bw := below_two bw bn
      clear bn
      go_wp2_with fail
      refine (digText_c HTab.out h_b (by decide) T HT.out).mono ?_
      rintro e w2 ⟨rfl, bn⟩
      replace h_a := h_a.below bn
      replace h_b := h_b.below bn
      replace HTab := Lib.hid (HTab.out.below bn)
      replace bw := below_two bw bn
      clear bn
      go_wp2_with fail
      refine (cmp_c h_a h_b (by decide) (by decide) 1 Hv.out).mono ?_
      rintro e w3 ⟨rfl, bn⟩
      replace h_a := h_a.below bn
      replace h_b := h_b.below bn
      replace HTab := Lib.hid (HTab.out.below bn)
      replace bw := below_two bw bn
      clear bn
      go_wp2_with fail
      refine (wakes_any w3 HTab.out).mono ?_
      rintro e w4 ⟨rfl, bn⟩
      replace h_a := h_a.below bn
      replace h_b := h_b.below bn
      replace HTab := Lib.hid (HTab.out.below bn)
      replace bw := below_two bw bn
      clear bn
      go_wp2
      go_ret
      exact ⟨rfl, bw⟩
    · have he : S.size = T.size := by omega
      have Hv := Lib.hid (cmpI_gt hcase)
      have hq : (S.toList == T.toList) = false := by rw [← hS, ← hT, str_beq (decT_bytes _) (decT_bytes _), decide_eq_false_iff_not]; exact fun e => absurd (decT_inj e) (by omega)
      have hb : Op.bytesLess S.toList T.toList = false := by rw [← hS, ← hT, str_less (decT_bytes _) (decT_bytes _), lessB_dec (decT_dig _) (decT_dig _) (by omega), decV_decT, decV_decT]; simp; omega
      have hl3 : T.size ≤ S.size := by omega
      have he2 : ((S.size : Int) == (T.size : Int)) = true := by simp; omega
      clear hmono he
      clear hS hT zS zT pS pT hcase
      go_enter Tryd.func5, Tryd.ntmps5
      go_wp2_with fail
      refine (digText_c HTab.out h_a (by decide) S HS.out).mono ?_
      rintro e w1 ⟨rfl, bn⟩
      replace h_a := h_a.below bn
      replace h_b := h_b.below bn
      replace HTab := Lib.hid (HTab.out.below bn)
      replace bw := below_two bw bn
      clear bn
      go_wp2_with fail
      refine (digText_c HTab.out h_b (by decide) T HT.out).mono ?_
      rintro e w2 ⟨rfl, bn⟩
      replace h_a := h_a.below bn
      replace h_b := h_b.below bn
      replace HTab := Lib.hid (HTab.out.below bn)
      replace bw := below_two bw bn
      clear bn
      go_wp2_with fail
      refine (cmp_c h_a h_b (by decide) (by decide) 1 Hv.out).mono ?_
      rintro e w3 ⟨rfl, bn⟩
      replace h_a := h_a.below bn
      replace h_b := h_b.below bn
      replace HTab := Lib.hid (HTab.out.below bn)
      replace bw := below_two bw bn
      clear bn
      go_wp2_with fail
      refine (wakes_any w3 HTab.out).mono ?_
      rintro e w4 ⟨rfl, bn⟩
      replace h_a := h_a.below bn
      replace h_b := h_b.below bn
      replace HTab := Lib.hid (HTab.out.below bn)
      replace bw := below_two bw bn
      clear bn
      go_wp2
      go_ret
      exact ⟨rfl, bw⟩

theorem tab_of {W : World} (h : laidMet Tryd.prog Rows.digitsOrderRow.laid W) : Tab W := by
  refine ⟨?_, ?_⟩
  · first | exact powers_tab (laidMet_drop 0 h) (by decide +kernel) | exact powers_tab (laidMet_drop 1 h) (by decide +kernel) | exact powers_tab (laidMet_drop 2 h) (by decide +kernel) | exact powers_tab (laidMet_drop 3 h) (by decide +kernel) | exact powers_tab (laidMet_drop 4 h) (by decide +kernel) | exact powers_tab (laidMet_drop 5 h) (by decide +kernel) | exact powers_tab (laidMet_drop 6 h) (by decide +kernel) | exact powers_tab (laidMet_drop 7 h) (by decide +kernel) | exact powers_tab (laidMet_drop 8 h) (by decide +kernel) | exact powers_tab (laidMet_drop 9 h) (by decide +kernel) | exact powers_tab (laidMet_drop 10 h) (by decide +kernel) | exact powers_tab (laidMet_drop 11 h) (by decide +kernel) | exact powers_tab (laidMet_drop 12 h) (by decide +kernel) | exact powers_tab (laidMet_drop 13 h) (by decide +kernel)
  · first | exact err_tab (laidMet_drop 0 h) (by decide +kernel) | exact err_tab (laidMet_drop 1 h) (by decide +kernel) | exact err_tab (laidMet_drop 2 h) (by decide +kernel) | exact err_tab (laidMet_drop 3 h) (by decide +kernel) | exact err_tab (laidMet_drop 4 h) (by decide +kernel) | exact err_tab (laidMet_drop 5 h) (by decide +kernel) | exact err_tab (laidMet_drop 6 h) (by decide +kernel) | exact err_tab (laidMet_drop 7 h) (by decide +kernel) | exact err_tab (laidMet_drop 8 h) (by decide +kernel) | exact err_tab (laidMet_drop 9 h) (by decide +kernel) | exact err_tab (laidMet_drop 10 h) (by decide +kernel) | exact err_tab (laidMet_drop 11 h) (by decide +kernel) | exact err_tab (laidMet_drop 12 h) (by decide +kernel) | exact err_tab (laidMet_drop 13 h) (by decide +kernel)

set_option maxRecDepth 100000 in
theorem lifted (os : Os) (started : os.Started) (H : Type) (enc : TypeId × Value → H) :
    ReturnsInHanded {} Tryd.checked os 5 .any (fun w args => (Rows.digitsOrderSpec.pre enc Tryd.prog Tryd.f5 [] false w args ∧ laidMetH Tryd.prog Rows.digitsOrderRow.laid w) ∧ sizedMet enc Tryd.prog Tryd.f5 (OpenSpec.ofChange Rows.digitsOrderSpec) false w args)
      (Rows.digitsOrderSpec.post enc Tryd.prog Tryd.f5 false true false false) := by
  refine returnsInHanded_of_change_and (C := Tryd.checked) (X := fun w _ => laidMetH Tryd.prog Rows.digitsOrderRow.laid w) (fun _ _ _ hh h => h.of_heap hh) own started (by kernel_rfl) Tryd.func5
    (ChangeSpec.witness_shaped (enc := enc) (C := Tryd.checked) (os := os) (X := fun w _ => laidMetH Tryd.prog Rows.digitsOrderRow.laid w) false (World.laidAll Tryd.prog os Rows.digitsOrderRow.laid) #[.slice none 0 0, .slice none 0 0] 8 (World.laidAll_os _ _ _)
      (World.shaped_of_ZipB (by kernel_rfl) (by kernel_rfl)) (by kernel_rfl) (by kernel_rfl) (by kernel_rfl)
      (by rw [MakeChecks.laidMetH_plain _ _ _ (by kernel_rfl)]; exact laidMet_laidAll _ (by kernel_rfl) (by kernel_rfl))) ?_
  intro W base args ds gs before hval0 hW _ _ hL _
  have hval : ∀ (j : Nat) t v, Tryd.f5.params[j]? = some t → args[j]? = some v → Value.okWide Tryd.prog W .any base t v := hval0
  have hW' := hW
  obtain ⟨p, q, hA0, hV, rfl, hfz, hnd⟩ := hW
  have hA : DataW.TrodAll enc Tryd.prog W 0 (fun _ => true) true Tryd.f5.params.toList args.toList ds p := hA0
  rw [Tryd.params5] at hA hval
  obtain ⟨v0, vs0, d0, ds0, p0, q0, hargs, rfl, rfl, h0, r0⟩ := trodAll_cons hA
  obtain ⟨v1, vs1, d1, ds1, p1, q1, rfl, rfl, rfl, h1, r1⟩ := trodAll_cons r0
  obtain ⟨rfl, rfl, rfl⟩ := trodAll_nil r1
  obtain rfl : args = #[v0, v1] := by cases args; simp_all
  obtain ⟨rfl, rfl⟩ := trodVars_none hV
  obtain ⟨a0, len0, cap0, rfl⟩ := okWide_slice Tryd.underlying23 (hval 0 23 v0 rfl rfl)
  obtain ⟨z0, i0, hc0, hm0, _⟩ := open_nat h0
  obtain ⟨a1, len1, cap1, rfl⟩ := okWide_slice Tryd.underlying23 (hval 1 23 v1 rfl rfl)
  obtain ⟨z1, i1, hc1, hm1, _⟩ := open_nat h1
  clear hA0 hval0
  simp only [List.append_nil] at hW'
  rw [MakeChecks.laidMetH_plain _ _ _ (by kernel_rfl)] at hL
  refine (walk a0 len0 cap0 z0 a1 len1 cap1 z1 W i0 hc0 hm0 i1 hc1 hm1 (tab_of hL)).mono fun e W' ⟨he, bel⟩ => ?_
  subst he
  exact ⟨_, rfl, _, _, _, [], _, [], hW', trodAll_mk1 (shut_bool Tryd.underlying4 _), (trodAll_cons_mk (Below.trod laidOut (by kernel_rfl) (of_decide_eq_true (by kernel_rfl)) h0 bel (places_lt h0)) (trodAll_cons_mk (Below.trod laidOut (by kernel_rfl) (of_decide_eq_true (by kernel_rfl)) h1 bel (places_lt h1)) trodAll_mk0)), rfl, bel.frame _, fun h => by cases h⟩

theorem over : Rows.digitsOrderRow.holds Tryd.pinned (OpenSpec.ofChange Rows.digitsOrderSpec) :=
  OpenClaim.holds_of_wide 5 Tryd.f5 rfl rfl rfl rfl rfl rfl rfl ⟨rfl, rfl, rfl, rfl, rfl⟩ rfl rfl rfl rfl rfl (by kernel_rfl) Tryd.func5 (by kernel_rfl)
    (of_decide_eq_true (by kernel_rfl)) (by unfold Func.isWrapper; first | (rw [if_pos (by decide +kernel)]; kernel_rfl) | (rw [if_neg (by decide +kernel)]; exact ⟨rfl, rfl⟩))
    (fun os started H enc _ => lifted os started H enc)

theorem proved : Rows.DigitsOrderCardSaid :=
  Claim7.holds_tied_plain_at .later [] Rows.digitsOrderCard.laidKinds true Rows.digitsOrderCard.stood.harness Rows.digitsOrderCard.stood.looks
    over (fun _ h => by cases h) (by kernel_rfl) (fun _ h => by cases h) digitsOrder_row_tie rfl ⟨rfl, rfl⟩ (by kernel_rfl) rfl
    (fun f fn hf hfn => by
      obtain rfl : f = 5 := Option.some.inj ((show Tryd.prog.funcNamed Rows.digitsOrderRow.func = some 5 by kernel_rfl).symm.trans hf) |>.symm
      obtain rfl : fn = Tryd.f5 := (Option.some.inj (Tryd.func5.symm.trans hfn)).symm
      exact ⟨by kernel_rfl, fun j t ht => by
        have hm : t ∈ Tryd.f5.params.toList := by simpa using Array.mem_of_getElem? ht
        have hall : (Tryd.f5.params.toList.all fun u => !Tryd.prog.wantsStandIn u) = true := by kernel_rfl
        exact (show Tryd.prog.wantsStandIn t = false by simpa using List.all_eq_true.1 hall t hm)⟩)
    (by kernel_rfl)

end Go.Proofs.YtpkjooiddejgpaaDoor.lawDigitsOrder
