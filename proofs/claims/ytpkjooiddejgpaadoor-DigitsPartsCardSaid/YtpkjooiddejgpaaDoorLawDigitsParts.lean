/- Of any two lists of limbs: the text of both, one behind the other, is the first number times ten to how many digits the second one has, and that one; a point between, a sign ahead are none. No condition. -/
import Derived.Test.YtpkjooiddejgpaaDoorOpen
import Derived.Test.YtpkjooiddejgpaaDoorDigW
import Derived.Test.YtpkjooiddejgpaaDoorTab
import Derived.Test.YtpkjooiddejgpaaDoorCards
import Derived.Test.YtpkjooiddejgpaaDoorTie
import Derived.ChangeMaps5
import Derived.Lay
import Derived.SevenTiedAt
namespace Go.Proofs.YtpkjooiddejgpaaDoor.lawDigitsParts
open Go.ChangeShapes Go.WideShapes Go.ChangeAt Go.RowKit Limb
set_option linter.unusedVariables false

set_option maxHeartbeats 4000000 in
set_option maxRecDepth 4000 in
theorem walk (A_a : Option Addr) (n_a c_a : Nat) (xs_a : List Nat) (A_b : Option Addr) (n_b c_b : Nat) (xs_b : List Nat) (w : World) (i_a : IsN w A_a n_a xs_a) (hc_a : n_a ≤ c_a) (hm_a : c_a ≤ maxLen) (i_b : IsN w A_b n_b xs_b) (hc_b : n_b ≤ c_b) (hm_b : c_b ≤ maxLen) (T : Tab w) :
    Calls Tryd.prog 6 #[.slice A_a n_a c_a, .slice A_b n_b c_b] w fun e w' => e = .returned (.bool true) ∧ Below w.heap.size w w' := by
  have HTab := Lib.hid T
  clear T
  have bw := bel_refl w
  have hx_a : (n_a : Int) ≤ 9223372036854775807 := by have := Nat.le_trans hc_a hm_a; unfold maxLen at this; omega
  have hx_b : (n_b : Int) ≤ 9223372036854775807 := by have := Nat.le_trans hc_b hm_b; unfold maxLen at this; omega
  by_cases l_a : 30 < n_a
  · go_enter Tryd.func6, Tryd.ntmps6
    go_wp2_with fail
    refine (wakes_any w HTab.out).mono ?_
    rintro e w1 ⟨rfl, bn⟩
    replace HTab := Lib.hid (HTab.out.below bn)
    replace bw := below_two bw bn
    clear bn
    go_wp2
    go_ret
    exact ⟨rfl, bw⟩
  by_cases l_b : 30 < n_b
  · go_enter Tryd.func6, Tryd.ntmps6
    go_wp2_with fail
    refine (wakes_any w HTab.out).mono ?_
    rintro e w1 ⟨rfl, bn⟩
    replace HTab := Lib.hid (HTab.out.below bn)
    replace bw := below_two bw bn
    clear bn
    go_wp2
    go_ret
    exact ⟨rfl, bw⟩
  have h_a : NN w A_a n_a c_a xs_a (Limb.val xs_a) 30 := ⟨i_a, rfl, hc_a, by omega⟩
  have h_b : NN w A_b n_b c_b xs_b (Limb.val xs_b) 30 := ⟨i_b, rfl, hc_b, by omega⟩
  obtain ⟨S, hS⟩ : ∃ S, strOf (decT (Limb.val xs_a)) = S := ⟨_, rfl⟩
  have zS : S.size = (decT (Limb.val xs_a)).length := by rw [← hS, size_strOf]
  have mS : S.size ≤ 301 := by rw [zS]; exact decT_len_limbs (L := 30) (lt_pow h_a)
  have pS : 1 ≤ S.size := by rw [zS]; exact decT_pos _
  have bS : RowKit.Hid (bytesOf S = decT (Limb.val xs_a)) := by show _ = _; rw [← hS, bytesOf_dec]
  have HS := Lib.hid hS
  obtain ⟨T, hT⟩ : ∃ T, strOf (decT (Limb.val xs_b)) = T := ⟨_, rfl⟩
  have zT : T.size = (decT (Limb.val xs_b)).length := by rw [← hT, size_strOf]
  have mT : T.size ≤ 301 := by rw [zT]; exact decT_len_limbs (L := 30) (lt_pow h_b)
  have pT : 1 ≤ T.size := by rw [zT]; exact decT_pos _
  have bT : RowKit.Hid (bytesOf T = decT (Limb.val xs_b)) := by show _ = _; rw [← hT, bytesOf_dec]
  have HT := Lib.hid hT
  have Hok : RowKit.Hid (numOk (bytesOf (S ++ T)) = true) := by
    show _ = _
    rw [bytesOf_append, bS.out, bT.out]
    exact numOk_good (by rw [List.length_append]; omega) (by rw [List.length_append]; omega) (by rw [allDig_append, decT_dig, decT_dig]; rfl)
  obtain ⟨q, hq⟩ : ∃ q, 10 ^ T.size = q := ⟨_, rfl⟩
  have Hn : RowKit.Hid (numV (bytesOf (S ++ T)) = (Limb.val xs_a) * q + (Limb.val xs_b)) := by
    show _ = _
    rw [numV_yes Hok.out, bytesOf_append, bS.out, bT.out, decV_append, decV_decT, decV_decT, ← zT, hq]
  have Hq := Lib.hid hq
  have No : RowKit.Hid (numOk (bytesOf (S ++ ⟨#[46]⟩ ++ T)) = false) := by
    show _ = _
    have e : bytesOf (S ++ ⟨#[46]⟩ ++ T) = decT (Limb.val xs_a) ++ 46 :: decT (Limb.val xs_b) := by rw [bytesOf_append, bytesOf_append, bS.out, bT.out, List.append_assoc]; rfl
    rw [e]
    refine numOk_bad (k := (decT (Limb.val xs_a)).length) (by simp) ?_
    simp [lim, isDig]
  have No2 := Lib.hid (numV_no No.out)
  have Nr : RowKit.Hid (numOk (bytesOf (⟨#[45]⟩ ++ S)) = false) := by
    show _ = _
    have e : bytesOf (⟨#[45]⟩ ++ S) = 45 :: decT (Limb.val xs_a) := by rw [bytesOf_append, bS.out]; rfl
    rw [e]
    exact numOk_bad (k := 0) (by simp) (by simp [lim, isDig])
  have Nr2 := Lib.hid (numV_no Nr.out)
  clear hS hT zS zT pS pT hq
  go_enter Tryd.func6, Tryd.ntmps6
  go_wp2_with fail
  refine (digText_c HTab.out h_a (by decide) S HS.out).mono ?_
  rintro e w1 ⟨rfl, bn⟩
  replace h_a := h_a.below bn
  replace h_b := h_b.below bn
  replace HTab := Lib.hid (HTab.out.below bn)
  replace bw := below_two bw bn
  clear bn
  go_wp2_with fail
  refine (digText_c HTab.out h_b (by decide) T HT.out).mono ?_
  rintro e w2 ⟨rfl, bn⟩
  replace h_a := h_a.below bn
  replace h_b := h_b.below bn
  replace HTab := Lib.hid (HTab.out.below bn)
  replace bw := below_two bw bn
  clear bn
  go_wp2_with fail
  refine (digParse_c _ w2 HTab.out true Hok.out _ Hn.out).mono ?_
  rintro e w3 ⟨A_n, n_n, c_n, rfl, h_n, bn⟩
  replace h_a := h_a.below bn
  replace h_b := h_b.below bn
  replace HTab := Lib.hid (HTab.out.below bn)
  replace bw := below_two bw bn
  clear bn
  go_wp2_with fail
  refine (digTen_yes T.size _ rfl (by omega) w3 HTab.out).mono ?_
  rintro e w4 ⟨A_t, n_t, c_t, rfl, h_t, bn⟩
  replace h_a := h_a.below bn
  replace h_b := h_b.below bn
  replace h_n := h_n.below bn
  replace HTab := Lib.hid (HTab.out.below bn)
  replace bw := below_two bw bn
  clear bn
  rw [Hq.out] at h_t
  go_wp2_with fail
  refine (digParse_c _ w4 HTab.out false No.out _ No2.out).mono ?_
  rintro e w5 ⟨A_y, n_y, c_y, rfl, h_y, bn⟩
  replace h_a := h_a.below bn
  replace h_b := h_b.below bn
  replace h_n := h_n.below bn
  replace h_t := h_t.below bn
  replace HTab := Lib.hid (HTab.out.below bn)
  replace bw := below_two bw bn
  clear bn
  clear h_y
  go_wp2_with fail
  refine (digParse_c _ w5 HTab.out false Nr.out _ Nr2.out).mono ?_
  rintro e w6 ⟨A_z, n_z, c_z, rfl, h_z, bn⟩
  replace h_a := h_a.below bn
  replace h_b := h_b.below bn
  replace h_n := h_n.below bn
  replace h_t := h_t.below bn
  replace HTab := Lib.hid (HTab.out.below bn)
  replace bw := below_two bw bn
  clear bn
  clear h_z
  go_wp2_with fail
  refine (mulOf_c h_a h_t 253 (by decide) (by decide) (by decide)).mono ?_
  rintro e w7 ⟨A_m, n_m, c_m, rfl, h_m, bn⟩
  replace h_a := h_a.below bn
  replace h_b := h_b.below bn
  replace h_n := h_n.below bn
  replace h_t := h_t.below bn
  replace HTab := Lib.hid (HTab.out.below bn)
  replace bw := below_two bw bn
  clear bn
  clear h_t
  go_wp2_with fail
  refine (add_c h_m h_b 254 (by decide) (by decide) (by decide)).mono ?_
  rintro e w8 ⟨A_s, n_s, c_s, rfl, h_s, bn⟩
  replace h_a := h_a.below bn
  replace h_b := h_b.below bn
  replace h_n := h_n.below bn
  replace h_m := h_m.below bn
  replace HTab := Lib.hid (HTab.out.below bn)
  replace bw := below_two bw bn
  clear bn
  clear h_m
  go_wp2_with fail
  refine (keep_c h_n h_s (by decide) (by decide) true (same_limbs rfl)).mono ?_
  rintro e w9 ⟨rfl, bn⟩
  replace h_a := h_a.below bn
  replace h_b := h_b.below bn
  replace h_n := h_n.below bn
  replace h_s := h_s.below bn
  replace HTab := Lib.hid (HTab.out.below bn)
  replace bw := below_two bw bn
  clear bn
  clear h_n h_s
  go_wp2_with fail
  refine (wakes_any w9 HTab.out).mono ?_
  rintro e w10 ⟨rfl, bn⟩
  replace h_a := h_a.below bn
  replace h_b := h_b.below bn
  replace HTab := Lib.hid (HTab.out.below bn)
  replace bw := below_two bw bn
  clear bn
  go_wp2
  go_ret
  exact ⟨rfl, bw⟩

theorem tab_of {W : World} (h : laidMet Tryd.prog Rows.digitsPartsRow.laid W) : Tab W := by
  refine ⟨?_, ?_⟩
  · first | exact powers_tab (laidMet_drop 0 h) (by decide +kernel) | exact powers_tab (laidMet_drop 1 h) (by decide +kernel) | exact powers_tab (laidMet_drop 2 h) (by decide +kernel) | exact powers_tab (laidMet_drop 3 h) (by decide +kernel) | exact powers_tab (laidMet_drop 4 h) (by decide +kernel) | exact powers_tab (laidMet_drop 5 h) (by decide +kernel) | exact powers_tab (laidMet_drop 6 h) (by decide +kernel) | exact powers_tab (laidMet_drop 7 h) (by decide +kernel) | exact powers_tab (laidMet_drop 8 h) (by decide +kernel) | exact powers_tab (laidMet_drop 9 h) (by decide +kernel) | exact powers_tab (laidMet_drop 10 h) (by decide +kernel) | exact powers_tab (laidMet_drop 11 h) (by decide +kernel) | exact powers_tab (laidMet_drop 12 h) (by decide +kernel) | exact powers_tab (laidMet_drop 13 h) (by decide +kernel)
  · first | exact err_tab (laidMet_drop 0 h) (by decide +kernel) | exact err_tab (laidMet_drop 1 h) (by decide +kernel) | exact err_tab (laidMet_drop 2 h) (by decide +kernel) | exact err_tab (laidMet_drop 3 h) (by decide +kernel) | exact err_tab (laidMet_drop 4 h) (by decide +kernel) | exact err_tab (laidMet_drop 5 h) (by decide +kernel) | exact err_tab (laidMet_drop 6 h) (by decide +kernel) | exact err_tab (laidMet_drop 7 h) (by decide +kernel) | exact err_tab (laidMet_drop 8 h) (by decide +kernel) | exact err_tab (laidMet_drop 9 h) (by decide +kernel) | exact err_tab (laidMet_drop 10 h) (by decide +kernel) | exact err_tab (laidMet_drop 11 h) (by decide +kernel) | exact err_tab (laidMet_drop 12 h) (by decide +kernel) | exact err_tab (laidMet_drop 13 h) (by decide +kernel)

set_option maxRecDepth 100000 in
theorem lifted (os : Os) (started : os.Started) (H : Type) (enc : TypeId × Value → H) :
    ReturnsInHanded {} Tryd.checked os 6 .any (fun w args => (Rows.digitsPartsSpec.pre enc Tryd.prog Tryd.f6 [] false w args ∧ laidMetH Tryd.prog Rows.digitsPartsRow.laid w) ∧ sizedMet enc Tryd.prog Tryd.f6 (OpenSpec.ofChange Rows.digitsPartsSpec) false w args)
      (Rows.digitsPartsSpec.post enc Tryd.prog Tryd.f6 false true false false) := by
  refine returnsInHanded_of_change_and (C := Tryd.checked) (X := fun w _ => laidMetH Tryd.prog Rows.digitsPartsRow.laid w) (fun _ _ _ hh h => h.of_heap hh) own started (by kernel_rfl) Tryd.func6
    (ChangeSpec.witness_shaped (enc := enc) (C := Tryd.checked) (os := os) (X := fun w _ => laidMetH Tryd.prog Rows.digitsPartsRow.laid w) false (World.laidAll Tryd.prog os Rows.digitsPartsRow.laid) #[.slice none 0 0, .slice none 0 0] 8 (World.laidAll_os _ _ _)
      (World.shaped_of_ZipB (by kernel_rfl) (by kernel_rfl)) (by kernel_rfl) (by kernel_rfl) (by kernel_rfl)
      (by rw [MakeChecks.laidMetH_plain _ _ _ (by kernel_rfl)]; exact laidMet_laidAll _ (by kernel_rfl) (by kernel_rfl))) ?_
  intro W base args ds gs before hval0 hW _ _ hL _
  have hval : ∀ (j : Nat) t v, Tryd.f6.params[j]? = some t → args[j]? = some v → Value.okWide Tryd.prog W .any base t v := hval0
  have hW' := hW
  obtain ⟨p, q, hA0, hV, rfl, hfz, hnd⟩ := hW
  have hA : DataW.TrodAll enc Tryd.prog W 0 (fun _ => true) true Tryd.f6.params.toList args.toList ds p := hA0
  rw [Tryd.params6] at hA hval
  obtain ⟨v0, vs0, d0, ds0, p0, q0, hargs, rfl, rfl, h0, r0⟩ := trodAll_cons hA
  obtain ⟨v1, vs1, d1, ds1, p1, q1, rfl, rfl, rfl, h1, r1⟩ := trodAll_cons r0
  obtain ⟨rfl, rfl, rfl⟩ := trodAll_nil r1
  obtain rfl : args = #[v0, v1] := by cases args; simp_all
  obtain ⟨rfl, rfl⟩ := trodVars_none hV
  obtain ⟨a0, len0, cap0, rfl⟩ := okWide_slice Tryd.underlying23 (hval 0 23 v0 rfl rfl)
  obtain ⟨z0, i0, hc0, hm0, _⟩ := open_nat h0
  obtain ⟨a1, len1, cap1, rfl⟩ := okWide_slice Tryd.underlying23 (hval 1 23 v1 rfl rfl)
  obtain ⟨z1, i1, hc1, hm1, _⟩ := open_nat h1
  clear hA0 hval0
  simp only [List.append_nil] at hW'
  rw [MakeChecks.laidMetH_plain _ _ _ (by kernel_rfl)] at hL
  refine (walk a0 len0 cap0 z0 a1 len1 cap1 z1 W i0 hc0 hm0 i1 hc1 hm1 (tab_of hL)).mono fun e W' ⟨he, bel⟩ => ?_
  subst he
  exact ⟨_, rfl, _, _, _, [], _, [], hW', trodAll_mk1 (shut_bool Tryd.underlying4 _), (trodAll_cons_mk (Below.trod laidOut (by kernel_rfl) (of_decide_eq_true (by kernel_rfl)) h0 bel (places_lt h0)) (trodAll_cons_mk (Below.trod laidOut (by kernel_rfl) (of_decide_eq_true (by kernel_rfl)) h1 bel (places_lt h1)) trodAll_mk0)), rfl, bel.frame _, fun h => by cases h⟩

theorem over : Rows.digitsPartsRow.holds Tryd.pinned (OpenSpec.ofChange Rows.digitsPartsSpec) :=
  OpenClaim.holds_of_wide 6 Tryd.f6 rfl rfl rfl rfl rfl rfl rfl ⟨rfl, rfl, rfl, rfl, rfl⟩ rfl rfl rfl rfl rfl (by kernel_rfl) Tryd.func6 (by kernel_rfl)
    (of_decide_eq_true (by kernel_rfl)) (by unfold Func.isWrapper; first | (rw [if_pos (by decide +kernel)]; kernel_rfl) | (rw [if_neg (by decide +kernel)]; exact ⟨rfl, rfl⟩))
    (fun os started H enc _ => lifted os started H enc)

theorem proved : Rows.DigitsPartsCardSaid :=
  Claim7.holds_tied_plain_at .later [] Rows.digitsPartsCard.laidKinds true Rows.digitsPartsCard.stood.harness Rows.digitsPartsCard.stood.looks
    over (fun _ h => by cases h) (by kernel_rfl) (fun _ h => by cases h) digitsParts_row_tie rfl ⟨rfl, rfl⟩ (by kernel_rfl) rfl
    (fun f fn hf hfn => by
      obtain rfl : f = 6 := Option.some.inj ((show Tryd.prog.funcNamed Rows.digitsPartsRow.func = some 6 by kernel_rfl).symm.trans hf) |>.symm
      obtain rfl : fn = Tryd.f6 := (Option.some.inj (Tryd.func6.symm.trans hfn)).symm
      exact ⟨by kernel_rfl, fun j t ht => by
        have hm : t ∈ Tryd.f6.params.toList := by simpa using Array.mem_of_getElem? ht
        have hall : (Tryd.f6.params.toList.all fun u => !Tryd.prog.wantsStandIn u) = true := by kernel_rfl
        exact (show Tryd.prog.wantsStandIn t = false by simpa using List.all_eq_true.1 hall t hm)⟩)
    (by kernel_rfl)

end Go.Proofs.YtpkjooiddejgpaaDoor.lawDigitsParts
