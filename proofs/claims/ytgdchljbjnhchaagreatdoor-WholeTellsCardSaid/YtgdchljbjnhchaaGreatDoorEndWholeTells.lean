/- Of any two whole numbers, any number of a machine and any text: what package whole tells is what the document tells. No condition. -/
import Derived.Test.YtgdchljbjnhchaaGreatDoorM6
import Derived.Test.YtgdchljbjnhchaaGreatDoorCards
import Derived.Test.YtgdchljbjnhchaaGreatDoorTie
import Derived.ChangeMaps5
import Derived.Lay
import Derived.SevenTiedAt
import Derived.Deep.RegionWith
import Derived.Deep.RegionHeld3
/- Of any two whole numbers, any number of a machine and any text: what package whole tells is what the document tells. No condition. -/
namespace Go.Proofs.YtgdchljbjnhchaaGreatDoor.lawWholeTells
open Go.ChangeShapes Go.WideShapes Go.ChangeAt Go.RowKit Limb
set_option linter.unusedVariables false

set_option maxHeartbeats 40000000 in
set_option maxRecDepth 100000 in
theorem walk (g_a : Bool) (A_a : Option Addr) (n_a c_a : Nat) (xs_a : List Nat) (g_b : Bool) (A_b : Option Addr) (n_b c_b : Nat) (xs_b : List Nat) (v_x : Int) (s_x : ByteArray) (w : World) (i_a : IsN w A_a n_a xs_a) (hc_a : n_a ≤ c_a) (hm_a : c_a ≤ maxLen) (i_b : IsN w A_b n_b xs_b) (hc_b : n_b ≤ c_b) (hm_b : c_b ≤ maxLen) (f_x : (Lit.int .i64 v_x).wf = true) (z_x : s_x.size ≤ maxLen) (T : Tab w) :
    Calls Tryz.prog 3 #[.agg #[.bool g_a, .slice A_a n_a c_a], .agg #[.bool g_b, .slice A_b n_b c_b], .agg #[.int .i64 v_x, .string s_x]] w fun e w' => e = .returned (.bool true) ∧ Below w.heap.size w w' := by
  by_cases hl2 : n_a ≤ 60 ∧ n_b ≤ 60 ∧ s_x.size ≤ 500
  · obtain ⟨l1, l2, l3⟩ := hl2
    exact tells g_a A_a n_a c_a xs_a g_b A_b n_b c_b xs_b v_x s_x w i_a hc_a hm_a i_b hc_b hm_b f_x z_x T (by omega) (by omega) (by omega)
  have HTab := Lib.hid T
  clear T
  have bw := bel_refl w
  by_cases l_0 : 60 < n_a
  · have T_a : RowKit.Hid (decide (60 < n_a) = true) := by show _ = _; simp; omega
    have h_ra := row2_new w 25 (.bool g_a) (.slice A_a n_a c_a)
    have bn := below_new w (.cells #[Value.bool g_a, Value.slice A_a n_a c_a] 25)
    replace HTab := Lib.hid (HTab.out.below bn)
    replace bw := below_two bw bn
    clear bn
    have h_rb := row2_new (w.alloc (.cells #[Value.bool g_a, Value.slice A_a n_a c_a] 25)) 25 (.bool g_b) (.slice A_b n_b c_b)
    have bn := below_new (w.alloc (.cells #[Value.bool g_a, Value.slice A_a n_a c_a] 25)) (.cells #[Value.bool g_b, Value.slice A_b n_b c_b] 25)
    replace h_ra := h_ra.below bn
    replace HTab := Lib.hid (HTab.out.below bn)
    replace bw := below_two bw bn
    clear bn
    have h_rx := row2_new ((w.alloc (.cells #[Value.bool g_a, Value.slice A_a n_a c_a] 25)).alloc (.cells #[Value.bool g_b, Value.slice A_b n_b c_b] 25)) 27 (.int .i64 v_x) (.string s_x)
    have bn := below_new ((w.alloc (.cells #[Value.bool g_a, Value.slice A_a n_a c_a] 25)).alloc (.cells #[Value.bool g_b, Value.slice A_b n_b c_b] 25)) (.cells #[Value.int .i64 v_x, Value.string s_x] 27)
    replace h_ra := h_ra.below bn
    replace h_rb := h_rb.below bn
    replace HTab := Lib.hid (HTab.out.below bn)
    replace bw := below_two bw bn
    clear bn
    simp only [World.size_alloc] at h_ra h_rb h_rx
    go_enter Tryz.func3, Tryz.ntmps3
    go_wp2_with fail
    generalize (((w.alloc (.cells #[Value.bool g_a, Value.slice A_a n_a c_a] 25)).alloc (.cells #[Value.bool g_b, Value.slice A_b n_b c_b] 25)).alloc (.cells #[Value.int .i64 v_x, Value.string s_x] 27)) = wP at *
    obtain ⟨q_x, eg⟩ : ∃ g, g = w.heap.size + 1 + 1 := ⟨_, rfl⟩
    rw [← eg] at h_rx ⊢
    have E_x := Lib.hid eg
    clear eg
    obtain ⟨q_b, eg⟩ : ∃ g, g = w.heap.size + 1 := ⟨_, rfl⟩
    rw [← eg] at h_rb ⊢
    have E_b := Lib.hid eg
    clear eg
    obtain ⟨q_a, eg⟩ : ∃ g, g = w.heap.size := ⟨_, rfl⟩
    rw [← eg] at h_ra ⊢
    have E_a := Lib.hid eg
    clear eg
    refine (long_c g_a A_a n_a c_a true T_a.out _).mono ?_
    rintro e w1 ⟨rfl, bn⟩
    replace h_ra := h_ra.below bn
    replace h_rb := h_rb.below bn
    replace h_rx := h_rx.below bn
    replace HTab := Lib.hid (HTab.out.below bn)
    replace bw := below_two bw bn
    clear bn
    go_wp2_with ((go_at_call 5; (with_reducible refine (wakes_any _ HTab.out).mono ?_); rintro e w2 ⟨rfl, b2⟩))
    go_ret
    exact ⟨rfl, below_two bw b2⟩
  by_cases l_1 : 60 < n_b
  · have T_b : RowKit.Hid (decide (60 < n_b) = true) := by show _ = _; simp; omega
    have T_a : RowKit.Hid (decide (60 < n_a) = false) := by show _ = _; simp; omega
    have h_ra := row2_new w 25 (.bool g_a) (.slice A_a n_a c_a)
    have bn := below_new w (.cells #[Value.bool g_a, Value.slice A_a n_a c_a] 25)
    replace HTab := Lib.hid (HTab.out.below bn)
    replace bw := below_two bw bn
    clear bn
    have h_rb := row2_new (w.alloc (.cells #[Value.bool g_a, Value.slice A_a n_a c_a] 25)) 25 (.bool g_b) (.slice A_b n_b c_b)
    have bn := below_new (w.alloc (.cells #[Value.bool g_a, Value.slice A_a n_a c_a] 25)) (.cells #[Value.bool g_b, Value.slice A_b n_b c_b] 25)
    replace h_ra := h_ra.below bn
    replace HTab := Lib.hid (HTab.out.below bn)
    replace bw := below_two bw bn
    clear bn
    have h_rx := row2_new ((w.alloc (.cells #[Value.bool g_a, Value.slice A_a n_a c_a] 25)).alloc (.cells #[Value.bool g_b, Value.slice A_b n_b c_b] 25)) 27 (.int .i64 v_x) (.string s_x)
    have bn := below_new ((w.alloc (.cells #[Value.bool g_a, Value.slice A_a n_a c_a] 25)).alloc (.cells #[Value.bool g_b, Value.slice A_b n_b c_b] 25)) (.cells #[Value.int .i64 v_x, Value.string s_x] 27)
    replace h_ra := h_ra.below bn
    replace h_rb := h_rb.below bn
    replace HTab := Lib.hid (HTab.out.below bn)
    replace bw := below_two bw bn
    clear bn
    simp only [World.size_alloc] at h_ra h_rb h_rx
    go_enter Tryz.func3, Tryz.ntmps3
    go_wp2_with fail
    generalize (((w.alloc (.cells #[Value.bool g_a, Value.slice A_a n_a c_a] 25)).alloc (.cells #[Value.bool g_b, Value.slice A_b n_b c_b] 25)).alloc (.cells #[Value.int .i64 v_x, Value.string s_x] 27)) = wP at *
    obtain ⟨q_x, eg⟩ : ∃ g, g = w.heap.size + 1 + 1 := ⟨_, rfl⟩
    rw [← eg] at h_rx ⊢
    have E_x := Lib.hid eg
    clear eg
    obtain ⟨q_b, eg⟩ : ∃ g, g = w.heap.size + 1 := ⟨_, rfl⟩
    rw [← eg] at h_rb ⊢
    have E_b := Lib.hid eg
    clear eg
    obtain ⟨q_a, eg⟩ : ∃ g, g = w.heap.size := ⟨_, rfl⟩
    rw [← eg] at h_ra ⊢
    have E_a := Lib.hid eg
    clear eg
    refine (long_c g_a A_a n_a c_a false T_a.out _).mono ?_
    rintro e w1 ⟨rfl, bn⟩
    replace h_ra := h_ra.below bn
    replace h_rb := h_rb.below bn
    replace h_rx := h_rx.below bn
    replace HTab := Lib.hid (HTab.out.below bn)
    replace bw := below_two bw bn
    clear bn
    have d_a0 := h_ra.c0
    have d_a1 := h_ra.c1
    have d_b0 := h_rb.c0
    have d_b1 := h_rb.c1
    have d_x0 := h_rx.c0
    have d_x1 := h_rx.c1
    go_wp2_with fail
    clear d_a0 d_a1 d_b0 d_b1 d_x0 d_x1
    refine (long_c g_b A_b n_b c_b true T_b.out _).mono ?_
    rintro e w2 ⟨rfl, bn⟩
    replace h_ra := h_ra.below bn
    replace h_rb := h_rb.below bn
    replace h_rx := h_rx.below bn
    replace HTab := Lib.hid (HTab.out.below bn)
    replace bw := below_two bw bn
    clear bn
    go_wp2_with ((go_at_call 5; (with_reducible refine (wakes_any _ HTab.out).mono ?_); rintro e w2 ⟨rfl, b2⟩))
    go_ret
    exact ⟨rfl, below_two bw b2⟩
  by_cases l_2 : 500 < s_x.size
  · have T_a : RowKit.Hid (decide (60 < n_a) = false) := by show _ = _; simp; omega
    have T_b : RowKit.Hid (decide (60 < n_b) = false) := by show _ = _; simp; omega
    have l_x2 : (500 : Int) < (s_x.size : Int) := by omega
    have h_ra := row2_new w 25 (.bool g_a) (.slice A_a n_a c_a)
    have bn := below_new w (.cells #[Value.bool g_a, Value.slice A_a n_a c_a] 25)
    replace HTab := Lib.hid (HTab.out.below bn)
    replace bw := below_two bw bn
    clear bn
    have h_rb := row2_new (w.alloc (.cells #[Value.bool g_a, Value.slice A_a n_a c_a] 25)) 25 (.bool g_b) (.slice A_b n_b c_b)
    have bn := below_new (w.alloc (.cells #[Value.bool g_a, Value.slice A_a n_a c_a] 25)) (.cells #[Value.bool g_b, Value.slice A_b n_b c_b] 25)
    replace h_ra := h_ra.below bn
    replace HTab := Lib.hid (HTab.out.below bn)
    replace bw := below_two bw bn
    clear bn
    have h_rx := row2_new ((w.alloc (.cells #[Value.bool g_a, Value.slice A_a n_a c_a] 25)).alloc (.cells #[Value.bool g_b, Value.slice A_b n_b c_b] 25)) 27 (.int .i64 v_x) (.string s_x)
    have bn := below_new ((w.alloc (.cells #[Value.bool g_a, Value.slice A_a n_a c_a] 25)).alloc (.cells #[Value.bool g_b, Value.slice A_b n_b c_b] 25)) (.cells #[Value.int .i64 v_x, Value.string s_x] 27)
    replace h_ra := h_ra.below bn
    replace h_rb := h_rb.below bn
    replace HTab := Lib.hid (HTab.out.below bn)
    replace bw := below_two bw bn
    clear bn
    simp only [World.size_alloc] at h_ra h_rb h_rx
    go_enter Tryz.func3, Tryz.ntmps3
    go_wp2_with fail
    generalize (((w.alloc (.cells #[Value.bool g_a, Value.slice A_a n_a c_a] 25)).alloc (.cells #[Value.bool g_b, Value.slice A_b n_b c_b] 25)).alloc (.cells #[Value.int .i64 v_x, Value.string s_x] 27)) = wP at *
    obtain ⟨q_x, eg⟩ : ∃ g, g = w.heap.size + 1 + 1 := ⟨_, rfl⟩
    rw [← eg] at h_rx ⊢
    have E_x := Lib.hid eg
    clear eg
    obtain ⟨q_b, eg⟩ : ∃ g, g = w.heap.size + 1 := ⟨_, rfl⟩
    rw [← eg] at h_rb ⊢
    have E_b := Lib.hid eg
    clear eg
    obtain ⟨q_a, eg⟩ : ∃ g, g = w.heap.size := ⟨_, rfl⟩
    rw [← eg] at h_ra ⊢
    have E_a := Lib.hid eg
    clear eg
    refine (long_c g_a A_a n_a c_a false T_a.out _).mono ?_
    rintro e w1 ⟨rfl, bn⟩
    replace h_ra := h_ra.below bn
    replace h_rb := h_rb.below bn
    replace h_rx := h_rx.below bn
    replace HTab := Lib.hid (HTab.out.below bn)
    replace bw := below_two bw bn
    clear bn
    have d_a0 := h_ra.c0
    have d_a1 := h_ra.c1
    have d_b0 := h_rb.c0
    have d_b1 := h_rb.c1
    have d_x0 := h_rx.c0
    have d_x1 := h_rx.c1
    go_wp2_with fail
    clear d_a0 d_a1 d_b0 d_b1 d_x0 d_x1
    refine (long_c g_b A_b n_b c_b false T_b.out _).mono ?_
    rintro e w2 ⟨rfl, bn⟩
    replace h_ra := h_ra.below bn
    replace h_rb := h_rb.below bn
    replace h_rx := h_rx.below bn
    replace HTab := Lib.hid (HTab.out.below bn)
    replace bw := below_two bw bn
    clear bn
    have d_a0 := h_ra.c0
    have d_a1 := h_ra.c1
    have d_b0 := h_rb.c0
    have d_b1 := h_rb.c1
    have d_x0 := h_rx.c0
    have d_x1 := h_rx.c1
    go_wp2_with ((go_at_call 5; (with_reducible refine (wakes_any _ HTab.out).mono ?_); rintro e w2 ⟨rfl, b2⟩))
    go_ret
    exact ⟨rfl, below_two bw b2⟩
  exact absurd ⟨by omega, by omega, by omega⟩ hl2

theorem tab_of {W : World} (h : laidMet Tryz.prog Rows.wholeTellsRow.laid W) : Tab W := by
  refine ⟨?_, ?_⟩
  · first | exact powers_tab (laidMet_drop 0 h) (by decide +kernel) | exact powers_tab (laidMet_drop 1 h) (by decide +kernel) | exact powers_tab (laidMet_drop 2 h) (by decide +kernel) | exact powers_tab (laidMet_drop 3 h) (by decide +kernel) | exact powers_tab (laidMet_drop 4 h) (by decide +kernel) | exact powers_tab (laidMet_drop 5 h) (by decide +kernel) | exact powers_tab (laidMet_drop 6 h) (by decide +kernel) | exact powers_tab (laidMet_drop 7 h) (by decide +kernel) | exact powers_tab (laidMet_drop 8 h) (by decide +kernel) | exact powers_tab (laidMet_drop 9 h) (by decide +kernel) | exact powers_tab (laidMet_drop 10 h) (by decide +kernel) | exact powers_tab (laidMet_drop 11 h) (by decide +kernel) | exact powers_tab (laidMet_drop 12 h) (by decide +kernel) | exact powers_tab (laidMet_drop 13 h) (by decide +kernel)
  · first | exact err_tab (laidMet_drop 0 h) (by decide +kernel) | exact err_tab (laidMet_drop 1 h) (by decide +kernel) | exact err_tab (laidMet_drop 2 h) (by decide +kernel) | exact err_tab (laidMet_drop 3 h) (by decide +kernel) | exact err_tab (laidMet_drop 4 h) (by decide +kernel) | exact err_tab (laidMet_drop 5 h) (by decide +kernel) | exact err_tab (laidMet_drop 6 h) (by decide +kernel) | exact err_tab (laidMet_drop 7 h) (by decide +kernel) | exact err_tab (laidMet_drop 8 h) (by decide +kernel) | exact err_tab (laidMet_drop 9 h) (by decide +kernel) | exact err_tab (laidMet_drop 10 h) (by decide +kernel) | exact err_tab (laidMet_drop 11 h) (by decide +kernel) | exact err_tab (laidMet_drop 12 h) (by decide +kernel) | exact err_tab (laidMet_drop 13 h) (by decide +kernel)

set_option maxRecDepth 100000 in
theorem lifted (os : Os) (started : os.Started) (H : Type) (enc : TypeId × Value → H) :
    ReturnsInHanded {} Tryz.checked os 3 .any (fun w args => (Rows.wholeTellsSpec.pre enc Tryz.prog Tryz.f3 [] false w args ∧ laidMetH Tryz.prog Rows.wholeTellsRow.laid w) ∧ sizedMet enc Tryz.prog Tryz.f3 (OpenSpec.ofChange Rows.wholeTellsSpec) false w args)
      (Rows.wholeTellsSpec.post enc Tryz.prog Tryz.f3 false true false false) := by
  refine returnsInHanded_of_change_and (C := Tryz.checked) (X := fun w _ => laidMetH Tryz.prog Rows.wholeTellsRow.laid w) (fun _ _ _ hh h => h.of_heap hh) own started (by kernel_rfl) Tryz.func3
    (ChangeSpec.witness_shaped (enc := enc) (C := Tryz.checked) (os := os) (X := fun w _ => laidMetH Tryz.prog Rows.wholeTellsRow.laid w) false (World.laidAll Tryz.prog os Rows.wholeTellsRow.laid) #[.agg #[.bool false, .slice none 0 0], .agg #[.bool false, .slice none 0 0], .agg #[.int .i64 0, .string ⟨#[]⟩]] 8 (World.laidAll_os _ _ _)
      (World.shaped_of_ZipB (by kernel_rfl) (by kernel_rfl)) (by kernel_rfl) (by kernel_rfl) (by kernel_rfl)
      (by rw [MakeChecks.laidMetH_plain _ _ _ (by kernel_rfl)]; exact laidMet_laidAll _ (by kernel_rfl) (by kernel_rfl))) ?_
  intro W base args ds gs before hval0 hW _ _ hL _
  have hval : ∀ (j : Nat) t v, Tryz.f3.params[j]? = some t → args[j]? = some v → Value.okWide Tryz.prog W .any base t v := hval0
  have hW' := hW
  obtain ⟨p, q, hA0, hV, rfl, hfz, hnd⟩ := hW
  have hA : DataW.TrodAll enc Tryz.prog W 0 (fun _ => true) true Tryz.f3.params.toList args.toList ds p := hA0
  rw [Tryz.params3] at hA hval
  obtain ⟨v0, vs0, d0, ds0, p0, q0, hargs, rfl, rfl, h0, r0⟩ := trodAll_cons hA
  obtain ⟨v1, vs1, d1, ds1, p1, q1, rfl, rfl, rfl, h1, r1⟩ := trodAll_cons r0
  obtain ⟨v2, vs2, d2, ds2, p2, q2, rfl, rfl, rfl, h2, r2⟩ := trodAll_cons r1
  obtain ⟨rfl, rfl, rfl⟩ := trodAll_nil r2
  obtain rfl : args = #[v0, v1, v2] := by cases args; simp_all
  obtain ⟨rfl, rfl⟩ := trodVars_none hV
  obtain ⟨b0, a0, len0, cap0, z0, rfl, i0, hc0, hm0⟩ := open_zint (hval 0 25 v0 rfl rfl) h0
  obtain ⟨b1, a1, len1, cap1, z1, rfl, i1, hc1, hm1⟩ := open_zint (hval 1 25 v1 rfl rfl) h1
  obtain ⟨a2, b2, rfl, w2, u2⟩ := open_asked (hval 2 27 v2 rfl rfl) h2
  clear hA0 hval0
  simp only [List.append_nil] at hW'
  rw [MakeChecks.laidMetH_plain _ _ _ (by kernel_rfl)] at hL
  refine (walk b0 a0 len0 cap0 z0 b1 a1 len1 cap1 z1 a2 b2 W i0 hc0 hm0 i1 hc1 hm1 w2 u2 (tab_of hL)).mono fun e W' ⟨he, bel⟩ => ?_
  subst he
  exact ⟨_, rfl, _, _, _, [], _, [], hW', trodAll_mk1 (shut_bool Tryz.underlying4 _), (trodAll_cons_mk (Below.trod laidOut (by kernel_rfl) (of_decide_eq_true (by kernel_rfl)) h0 bel (places_lt h0)) (trodAll_cons_mk (Below.trod laidOut (by kernel_rfl) (of_decide_eq_true (by kernel_rfl)) h1 bel (places_lt h1)) (trodAll_cons_mk (Below.trod laidOut (by kernel_rfl) (of_decide_eq_true (by kernel_rfl)) h2 bel (places_lt h2)) trodAll_mk0))), rfl, bel.frame _, fun h => by cases h⟩

theorem over : Rows.wholeTellsRow.holds Tryz.pinned (OpenSpec.ofChange Rows.wholeTellsSpec) :=
  OpenClaim.holds_of_wide 3 Tryz.f3 rfl rfl rfl rfl rfl rfl rfl ⟨rfl, rfl, rfl, rfl, rfl⟩ rfl rfl rfl rfl rfl (by kernel_rfl) Tryz.func3 (by kernel_rfl)
    (of_decide_eq_true (by kernel_rfl)) (by unfold Func.isWrapper; first | (rw [if_pos (by decide +kernel)]; kernel_rfl) | (rw [if_neg (by decide +kernel)]; exact ⟨rfl, rfl⟩))
    (fun os started H enc _ => lifted os started H enc)

theorem proved : Rows.WholeTellsCardSaid :=
  Claim7.holds_tied_plain_at .later [] Rows.wholeTellsCard.laidKinds true Rows.wholeTellsCard.stood.harness Rows.wholeTellsCard.stood.looks
    over (fun _ h => by cases h) (by kernel_rfl) (fun _ h => by cases h) wholeTells_row_tie rfl ⟨rfl, rfl⟩ (by kernel_rfl) rfl
    (fun f fn hf hfn => by
      obtain rfl : f = 3 := Option.some.inj ((show Tryz.prog.funcNamed Rows.wholeTellsRow.func = some 3 by kernel_rfl).symm.trans hf) |>.symm
      obtain rfl : fn = Tryz.f3 := (Option.some.inj (Tryz.func3.symm.trans hfn)).symm
      exact ⟨by kernel_rfl, fun j t ht => by
        have hm : t ∈ Tryz.f3.params.toList := by simpa using Array.mem_of_getElem? ht
        have hall : (Tryz.f3.params.toList.all fun u => !Tryz.prog.wantsStandIn u) = true := by kernel_rfl
        exact (show Tryz.prog.wantsStandIn t = false by simpa using List.all_eq_true.1 hall t hm)⟩)
    (by kernel_rfl)

end Go.Proofs.YtgdchljbjnhchaaGreatDoor.lawWholeTells
