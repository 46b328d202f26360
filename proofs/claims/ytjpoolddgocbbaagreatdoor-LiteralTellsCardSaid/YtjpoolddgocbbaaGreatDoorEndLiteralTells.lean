/- Of any text what package literal tells is what the document tells. Condition: the listed tables. -/
import Derived.Test.YtjpoolddgocbbaaGreatDoorM9
import Derived.Test.YtjpoolddgocbbaaGreatDoorCards
import Derived.Test.YtjpoolddgocbbaaGreatDoorTie
import Derived.ChangeMaps5
import Derived.Lay
import Derived.SevenTiedAt
/- Of any text what package literal tells is what the document tells. Condition: the listed tables. -/
namespace Go.Proofs.YtjpoolddgocbbaaGreatDoor.lawLiteralTells
open Go.ChangeShapes Go.WideShapes Go.ChangeAt Go.RowKit Limb
set_option linter.unusedVariables false

set_option maxHeartbeats 4000000 in
set_option maxRecDepth 100000 in
theorem walk (s_s : ByteArray) (w : World) (z_s : s_s.size ≤ maxLen) (T : LTab w) :
    Calls Tryz.prog 3 #[.string s_s] w fun e w' => e = .returned (.bool true) ∧ Below w.heap.size w w' := by
  have HTab := Lib.hid T
  clear T
  have hm : maxLen = 9223372036854775807 := by decide
  have hs : s_s.size ≤ 9223372036854775807 := by omega
  clear hm z_s
  obtain ⟨r, e0, hR⟩ : ∃ r e, litR (bytesOf s_s) = (r, e) := ⟨_, _, rfl⟩
  have HR := Lib.hid hR
  obtain ⟨v, hv⟩ : ∃ v, litGood (bytesOf s_s) = v := ⟨_, rfl⟩
  have HV := Lib.hid hv
  obtain ⟨n, hn⟩ : ∃ n, litLen (bytesOf s_s) = n := ⟨_, rfl⟩
  have HN := Lib.hid hn
  clear hR hv hn
  have bw := bel_refl w
  by_cases l1 : 1000 < s_s.size
  · have L1 : (1000 : Int) < s_s.size := by omega
    clear l1
    go_enter Tryz.func3, Tryz.ntmps3
    go_wp2_with fail
    refine (wakes_any _ HTab.out).mono ?_
    rintro e w1 ⟨rfl, bn⟩
    replace HTab := Lib.hid (HTab.out.below bn)
    replace bw := below_two bw bn
    clear bn
    go_wp2
    go_ret
    exact ⟨rfl, bw⟩
  · have L1 : (s_s.size : Int) ≤ 1000 := by omega
    clear l1
    go_enter Tryz.func3, Tryz.ntmps3
    go_wp2_with fail
    refine (litParse_c s_s hs _ HTab.out _ _ HR.out).mono ?_
    rintro e w2 ⟨A_a, n_a, c_a, B_a, m_a, d_a, rfl, h_a, bn⟩
    replace HTab := Lib.hid (HTab.out.below bn)
    replace bw := below_two bw bn
    clear bn
    have h_ra := row3_new w2 28 (.bool (sg (oTop r))) (.slice A_a n_a c_a) (.slice B_a m_a d_a)
    have bn := below_new w2 (.cells #[Value.bool (sg (oTop r)), Value.slice A_a n_a c_a, Value.slice B_a m_a d_a] 28)
    replace h_a := h_a.below bn
    replace HTab := Lib.hid (HTab.out.below bn)
    replace bw := below_two bw bn
    clear bn
    go_wp2_with fail
    generalize w2.alloc (.cells #[Value.bool (sg (oTop r)), Value.slice A_a n_a c_a, Value.slice B_a m_a d_a] 28) = w3 at *
    obtain ⟨q_a, eg⟩ : ∃ g, g = w2.heap.size := ⟨_, rfl⟩
    rw [← eg] at h_ra ⊢
    clear eg
    refine (refLParse_c s_s hs _ _ _ HR.out).mono ?_
    rintro e w4 ⟨A_g, n_g, c_g, B_g, m_g, d_g, rfl, h_g, bn⟩
    replace h_a := h_a.below bn
    replace h_ra := h_ra.below bn
    replace HTab := Lib.hid (HTab.out.below bn)
    replace bw := below_two bw bn
    clear bn
    have h_rgg := row4_new w4 33 (.bool (sg (oTop r))) (.slice A_g n_g c_g) (.slice B_g m_g d_g) (.int .i64 e0)
    have bn := below_new w4 (.cells #[Value.bool (sg (oTop r)), Value.slice A_g n_g c_g, Value.slice B_g m_g d_g, Value.int .i64 e0] 33)
    replace h_a := h_a.below bn
    replace h_ra := h_ra.below bn
    replace h_g := h_g.below bn
    replace HTab := Lib.hid (HTab.out.below bn)
    replace bw := below_two bw bn
    clear bn
    go_wp2_with fail
    generalize w4.alloc (.cells #[Value.bool (sg (oTop r)), Value.slice A_g n_g c_g, Value.slice B_g m_g d_g, Value.int .i64 e0] 33) = w5 at *
    obtain ⟨q_gg, eg⟩ : ∃ g, g = w4.heap.size := ⟨_, rfl⟩
    rw [← eg] at h_rgg ⊢
    clear eg
    refine (litGood_c s_s hs _ HTab.out v HV.out).mono ?_
    rintro e w6 ⟨rfl, bn⟩
    replace h_a := h_a.below bn
    replace h_ra := h_ra.below bn
    replace h_g := h_g.below bn
    replace h_rgg := h_rgg.below bn
    replace HTab := Lib.hid (HTab.out.below bn)
    replace bw := below_two bw bn
    clear bn
    go_wp2_with fail
    refine (refLGood_c s_s hs _ v HV.out).mono ?_
    rintro e wx ⟨rfl, rfl⟩
    go_wp2_with fail
    refine (litLength_c s_s hs _ HTab.out n HN.out).mono ?_
    rintro e w7 ⟨rfl, bn⟩
    replace h_a := h_a.below bn
    replace h_ra := h_ra.below bn
    replace h_g := h_g.below bn
    replace h_rgg := h_rgg.below bn
    replace HTab := Lib.hid (HTab.out.below bn)
    replace bw := below_two bw bn
    clear bn
    go_wp2_with fail
    have HLEN := refLLen_c s_s hs w7
    rw [HN.out] at HLEN
    refine HLEN.mono ?_
    rintro e wx ⟨rfl, rfl⟩
    clear HLEN
    have c_a0 := h_ra.c0
    have c_a1 := h_ra.c1
    have c_a2 := h_ra.c2
    have c_gg0 := h_rgg.c0
    have c_gg1 := h_rgg.c1
    have c_gg2 := h_rgg.c2
    have c_gg3 := h_rgg.c3
    go_wp2_with fail
    clear c_a0 c_a1 c_a2 c_gg0 c_gg1 c_gg2 c_gg3
    refine (keepRat_c h_a h_g (by decide) (by decide) true (keepQ rfl)).mono ?_
    rintro e w8 ⟨rfl, bn⟩
    replace h_a := h_a.below bn
    replace h_ra := h_ra.below bn
    replace h_g := h_g.below bn
    replace h_rgg := h_rgg.below bn
    replace HTab := Lib.hid (HTab.out.below bn)
    replace bw := below_two bw bn
    clear bn
    have c_gg0 := h_rgg.c0
    have c_gg1 := h_rgg.c1
    have c_gg2 := h_rgg.c2
    have c_gg3 := h_rgg.c3
    go_wp2_with fail
    clear c_gg0 c_gg1 c_gg2 c_gg3
    refine (wakes_any _ HTab.out).mono ?_
    rintro e w9 ⟨rfl, bn⟩
    replace h_a := h_a.below bn
    replace h_ra := h_ra.below bn
    replace h_g := h_g.below bn
    replace h_rgg := h_rgg.below bn
    replace HTab := Lib.hid (HTab.out.below bn)
    replace bw := below_two bw bn
    clear bn
    go_wp2
    go_ret
    exact ⟨rfl, bw⟩

theorem tab_of {W : World} (h : laidMet Tryz.prog Rows.literalTellsRow.laid W) : LTab W := by
  refine ⟨⟨?_, ?_⟩, ?_⟩
  · first | exact powers_tab (laidMet_drop 0 h) (by decide +kernel) | exact powers_tab (laidMet_drop 1 h) (by decide +kernel) | exact powers_tab (laidMet_drop 2 h) (by decide +kernel) | exact powers_tab (laidMet_drop 3 h) (by decide +kernel) | exact powers_tab (laidMet_drop 4 h) (by decide +kernel) | exact powers_tab (laidMet_drop 5 h) (by decide +kernel) | exact powers_tab (laidMet_drop 6 h) (by decide +kernel) | exact powers_tab (laidMet_drop 7 h) (by decide +kernel) | exact powers_tab (laidMet_drop 8 h) (by decide +kernel) | exact powers_tab (laidMet_drop 9 h) (by decide +kernel) | exact powers_tab (laidMet_drop 10 h) (by decide +kernel) | exact powers_tab (laidMet_drop 11 h) (by decide +kernel) | exact powers_tab (laidMet_drop 12 h) (by decide +kernel) | exact powers_tab (laidMet_drop 13 h) (by decide +kernel)
  · first | exact err_tab (laidMet_drop 0 h) (by decide +kernel) | exact err_tab (laidMet_drop 1 h) (by decide +kernel) | exact err_tab (laidMet_drop 2 h) (by decide +kernel) | exact err_tab (laidMet_drop 3 h) (by decide +kernel) | exact err_tab (laidMet_drop 4 h) (by decide +kernel) | exact err_tab (laidMet_drop 5 h) (by decide +kernel) | exact err_tab (laidMet_drop 6 h) (by decide +kernel) | exact err_tab (laidMet_drop 7 h) (by decide +kernel) | exact err_tab (laidMet_drop 8 h) (by decide +kernel) | exact err_tab (laidMet_drop 9 h) (by decide +kernel) | exact err_tab (laidMet_drop 10 h) (by decide +kernel) | exact err_tab (laidMet_drop 11 h) (by decide +kernel) | exact err_tab (laidMet_drop 12 h) (by decide +kernel) | exact err_tab (laidMet_drop 13 h) (by decide +kernel)
  · first | exact kinds_tab (laidMet_drop 0 h) (by decide +kernel) | exact kinds_tab (laidMet_drop 1 h) (by decide +kernel) | exact kinds_tab (laidMet_drop 2 h) (by decide +kernel) | exact kinds_tab (laidMet_drop 3 h) (by decide +kernel) | exact kinds_tab (laidMet_drop 4 h) (by decide +kernel) | exact kinds_tab (laidMet_drop 5 h) (by decide +kernel) | exact kinds_tab (laidMet_drop 6 h) (by decide +kernel) | exact kinds_tab (laidMet_drop 7 h) (by decide +kernel) | exact kinds_tab (laidMet_drop 8 h) (by decide +kernel) | exact kinds_tab (laidMet_drop 9 h) (by decide +kernel) | exact kinds_tab (laidMet_drop 10 h) (by decide +kernel) | exact kinds_tab (laidMet_drop 11 h) (by decide +kernel) | exact kinds_tab (laidMet_drop 12 h) (by decide +kernel) | exact kinds_tab (laidMet_drop 13 h) (by decide +kernel)

set_option maxRecDepth 100000 in
theorem lifted (os : Os) (started : os.Started) (H : Type) (enc : TypeId × Value → H) :
    ReturnsInHanded {} Tryz.checked os 3 .any (fun w args => (Rows.literalTellsSpec.pre enc Tryz.prog Tryz.f3 [] false w args ∧ laidMetH Tryz.prog Rows.literalTellsRow.laid w) ∧ sizedMet enc Tryz.prog Tryz.f3 (OpenSpec.ofChange Rows.literalTellsSpec) false w args)
      (Rows.literalTellsSpec.post enc Tryz.prog Tryz.f3 false true false false) := by
  refine returnsInHanded_of_change_and (C := Tryz.checked) (X := fun w _ => laidMetH Tryz.prog Rows.literalTellsRow.laid w) (fun _ _ _ hh h => h.of_heap hh) own started (by kernel_rfl) Tryz.func3
    (ChangeSpec.witness_shaped (enc := enc) (C := Tryz.checked) (os := os) (X := fun w _ => laidMetH Tryz.prog Rows.literalTellsRow.laid w) false (World.laidAll Tryz.prog os Rows.literalTellsRow.laid) #[.string ⟨#[]⟩] 8 (World.laidAll_os _ _ _)
      (World.shaped_of_ZipB (by kernel_rfl) (by kernel_rfl)) (by kernel_rfl) (by kernel_rfl) (by kernel_rfl)
      (by rw [MakeChecks.laidMetH_plain _ _ _ (by kernel_rfl)]; exact laidMet_laidAll _ (by kernel_rfl) (by kernel_rfl))) ?_
  intro W base args ds gs before hval0 hW _ _ hL _
  have hval : ∀ (j : Nat) t v, Tryz.f3.params[j]? = some t → args[j]? = some v → Value.okWide Tryz.prog W .any base t v := hval0
  have hW' := hW
  obtain ⟨p, q, hA0, hV, rfl, hfz, hnd⟩ := hW
  have hA : DataW.TrodAll enc Tryz.prog W 0 (fun _ => true) true Tryz.f3.params.toList args.toList ds p := hA0
  rw [Tryz.params3] at hA hval
  obtain ⟨v0, vs0, d0, ds0, p0, q0, hargs, rfl, rfl, h0, r0⟩ := trodAll_cons hA
  obtain ⟨rfl, rfl, rfl⟩ := trodAll_nil r0
  obtain rfl : args = #[v0] := by cases args; simp_all
  obtain ⟨rfl, rfl⟩ := trodVars_none hV
  obtain ⟨a0, rfl, rfl, rfl, w0⟩ := Go.ChangeMaps.open_string Tryz.underlying9 (hval 0 9 v0 rfl rfl) h0
  clear hA0 hval0
  simp only [List.append_nil] at hW'
  rw [MakeChecks.laidMetH_plain _ _ _ (by kernel_rfl)] at hL
  refine (walk a0 W w0 (tab_of hL)).mono fun e W' ⟨he, bel⟩ => ?_
  subst he
  exact ⟨_, rfl, _, _, _, [], _, [], hW', trodAll_mk1 (shut_bool Tryz.underlying4 _), (trodAll_cons_mk (Go.ChangeMaps.shut_string Tryz.underlying9 w0) trodAll_mk0), rfl, bel.frame _, fun h => by cases h⟩

theorem over : Rows.literalTellsRow.holds Tryz.pinned (OpenSpec.ofChange Rows.literalTellsSpec) :=
  OpenClaim.holds_of_wide 3 Tryz.f3 rfl rfl rfl rfl rfl rfl rfl ⟨rfl, rfl, rfl, rfl, rfl⟩ rfl rfl rfl rfl rfl (by kernel_rfl) Tryz.func3 (by kernel_rfl)
    (of_decide_eq_true (by kernel_rfl)) (by unfold Func.isWrapper; first | (rw [if_pos (by decide +kernel)]; kernel_rfl) | (rw [if_neg (by decide +kernel)]; exact ⟨rfl, rfl⟩))
    (fun os started H enc _ => lifted os started H enc)

theorem proved : Rows.LiteralTellsCardSaid :=
  Claim7.holds_tied_plain_at .later [] Rows.literalTellsCard.laidKinds true Rows.literalTellsCard.stood.harness Rows.literalTellsCard.stood.looks
    over (fun _ h => by cases h) (by kernel_rfl) (fun _ h => by cases h) literalTells_row_tie rfl ⟨rfl, rfl⟩ (by kernel_rfl) rfl
    (fun f fn hf hfn => by
      obtain rfl : f = 3 := Option.some.inj ((show Tryz.prog.funcNamed Rows.literalTellsRow.func = some 3 by kernel_rfl).symm.trans hf) |>.symm
      obtain rfl : fn = Tryz.f3 := (Option.some.inj (Tryz.func3.symm.trans hfn)).symm
      exact ⟨by kernel_rfl, fun j t ht => by
        have hm : t ∈ Tryz.f3.params.toList := by simpa using Array.mem_of_getElem? ht
        have hall : (Tryz.f3.params.toList.all fun u => !Tryz.prog.wantsStandIn u) = true := by kernel_rfl
        exact (show Tryz.prog.wantsStandIn t = false by simpa using List.all_eq_true.1 hall t hm)⟩)
    (by kernel_rfl)

end Go.Proofs.YtjpoolddgocbbaaGreatDoor.lawLiteralTells
