/- For every text WriteOnce answers true and leaves its argument as it was. Conditions: the row's own (the variables read as the program lays them). -/
import Derived.Test.YtannifhcjcbkcaaGreatDoorMB15
import Derived.Test.YtannifhcjcbkcaaGreatDoorCards
import Derived.Test.YtannifhcjcbkcaaGreatDoorTie
import Derived.ChangeMaps5
import Derived.Lay
import Derived.SevenTiedAt
/- For every text WriteOnce answers true and leaves its argument as it was. Conditions: the row's own (the variables read as the program lays them). -/
namespace Go.Proofs.YtannifhcjcbkcaaGreatDoor.lawWriteOnce
open Go.ChangeShapes Go.WideShapes Go.ChangeAt Go.RowKit Limb
set_option linter.unusedVariables false
set_option maxHeartbeats 8000000 in
set_option maxRecDepth 100000 in
theorem walk (s_s : ByteArray) (w : World) (z_s : s_s.size ≤ maxLen) (HT : FTab w) :
 Calls Tryz.prog 8 #[.string s_s] w fun e w' => e = .returned (.bool true) ∧ Below w.heap.size w w' := by
 have HT0 := Lib.hid HT
 clear HT
 have HLs := Lib.hid (xqe s_s)
 have HBs := Lib.hid (xjg s_s)
 have hzs : s_s.size ≤ 9223372036854775807 := z_s
 obtain ⟨⟨ds, E, Pp⟩, hV⟩ : ∃ x, scrV mostL (bytesOf s_s) = x := ⟨_, rfl⟩
 have HV := Lib.hid hV
 clear hV
 have bw := zqc w
 have HB0 := Lib.hid bw
 go_enter Tryz.func8, Tryz.ntmps8
 by_cases h15 : 1500 < s_s.size
 · have e15 : (1500 : Int) < (s_s.size : Int) := by omega
   go_wp2_with fail
   refine (yq1 w (Lib.hid (HT0.out.below HB0.out))).mono ?_
   rintro e w9 ⟨rfl, bn⟩
   have HB9 := Lib.hid (xqa HB0.out bn)
   clear bn
   go_wp2
   go_ret
   exact ⟨rfl, HB9.out⟩
 · skip
   go_wp2_with fail
   refine (pMost_c w).mono ?_
   rintro e w1 ⟨rfl, bn⟩
   replace bw := xqa bw bn
   clear bn
   go_wp2_with fail
   refine (zqq s_s (by omega) (4000) (60) (2000) (64) w1 (HT0.out.below bw).1 (ds) (E) (Pp) (by rw [cutL_most]; exact HV.out)).mono ?_
   rintro e w2 ⟨A_a, n_a, c_a, rfl, h_da, bn⟩
   replace bw := xqa bw bn
   clear bn
   have HU_f := Lib.hid (fitsF (E) (Pp))
   have h_rf := xqd w2 29 (xzw (E) (Pp))
   have bn := xqc w2 (.cells (xzw (E) (Pp)) 29)
   replace h_da := h_da.below bn
   replace bw := xqa bw bn
   clear bn
   by_cases hE : E = 0
   · skip
     have e0 : (E != 0) = false := by rw [hE]; rfl
     have HE := Lib.hid hE
     have hV1 := HV.out
     rw [hE] at hV1
     have HV1 := Lib.hid hV1
     clear hE
     obtain ⟨x1, x2, x3, x4, x5, x6⟩ := scrV_ok yjb HBs.out hV1
     have HG : Hid (∀ d ∈ ds, goodD d = true) := fun d hd => (x3 d hd).1
     have H60 := Lib.hid x5
     clear x1 x2 x3 x4 x5 x6 hV1
     obtain ⟨lg, hlg⟩ : ∃ b, largeS ds = b := ⟨_, rfl⟩
     have HLG := Lib.hid hlg
     clear hlg
     have k0_f := h_rf.cell (k := 0) (v := .int .i64 (E)) rfl
     go_wp2_with (refine xqg (by rfl) _ _ _ (by rfl) _ _ _ (by rfl) (by rfl) (by assumption) ?_)
     clear k0_f
     generalize w2.alloc (.cells (xzw (E) (Pp)) 29) = w3 at *
     obtain ⟨q_f, eg⟩ : ∃ g, g = w2.heap.size := ⟨_, rfl⟩
     rw [← eg] at h_rf ⊢
     clear eg
     refine (kLargeS_c h_da lg HLG.out).mono ?_
     rintro e w4 ⟨rfl, bn⟩
     replace h_da := h_da.below bn
     replace h_rf := h_rf.below bn
     replace bw := xqa bw bn
     clear bn
     cases lg with
     | true =>
      go_wp2_with fail
      refine (yq1 w4 (Lib.hid (HT0.out.below bw))).mono ?_
      rintro e w5 ⟨rfl, bn⟩
      replace h_da := h_da.below bn
      replace h_rf := h_rf.below bn
      replace bw := xqa bw bn
      clear bn
      go_wp2
      go_ret
      exact ⟨rfl, bw⟩
     | false =>
      have hSW := scrW_ok HG.out H60.out
      by_cases hw : 4000 < (xja ds).length
      · rw [if_pos hw] at hSW
        have HSW : Hid ((strOf (scrW ds).1, (scrW ds).2) = ((⟨#[]⟩ : ByteArray), (2 : Int))) := by show _ = _; rw [hSW]; rfl
        clear hSW hw
        go_wp2_with fail
        refine (yq2 h_da (fun d hd => xvv (HG.out d hd)) (HT0.out.below bw).wr ⟨#[]⟩ 2 HSW.out).mono ?_
        rintro e w5 ⟨rfl, bn⟩
        replace h_da := h_da.below bn
        replace h_rf := h_rf.below bn
        replace bw := xqa bw bn
        clear bn
        go_wp2_with fail
        refine (yq1 w5 (Lib.hid (HT0.out.below bw))).mono ?_
        rintro e w6 ⟨rfl, bn⟩
        replace h_da := h_da.below bn
        replace h_rf := h_rf.below bn
        replace bw := xqa bw bn
        clear bn
        go_wp2
        go_ret
        exact ⟨rfl, bw⟩
      · rw [if_neg hw] at hSW
        obtain ⟨X, hX⟩ : ∃ X : ByteArray, strOf (xja ds) = X := ⟨_, rfl⟩
        have HSW : Hid ((strOf (scrW ds).1, (scrW ds).2) = (X, (0 : Int))) := by show _ = _; rw [hSW, ← hX]
        obtain ⟨es, y1, y2, y3, y4, y5⟩ := once_facts HBs.out HV1.out (by omega)
        have hXb : bytesOf X = xja ds := by rw [← hX]; exact xqk (yjf HG.out (fun d hd => xvv (HG.out d hd)))
        have hXs : X.size ≤ 1000000000 := by rw [← hX, xqh]; omega
        have HXs := Lib.hid hXs
        have HV2 : Hid (scrV (xjd 4000 60 2000 64) (bytesOf X) = (es, 0, 0)) := by show _ = _; rw [cutL_most, hXb]; exact y1
        have HSW2 : Hid ((strOf (scrW es).1, (scrW es).2) = (X, (0 : Int))) := by show _ = _; rw [scrW_ok y3 y4, if_neg (by rw [y5]; omega), y5, ← hX]
        have HK := Lib.hid y2
        have HGe := Lib.hid y3
        have H60e := Lib.hid y4
        clear y1 y2 y3 y4 y5 hXb hSW hw hX hXs
        go_wp2_with fail
        refine (yq2 h_da (fun d hd => xvv (HG.out d hd)) (HT0.out.below bw).wr X 0 HSW.out).mono ?_
        rintro e w5 ⟨rfl, bn⟩
        replace h_da := h_da.below bn
        replace h_rf := h_rf.below bn
        replace bw := xqa bw bn
        clear bn
        go_wp2_with fail
        refine (pMost_c w5).mono ?_
        rintro e w6 ⟨rfl, bn⟩
        replace h_da := h_da.below bn
        replace h_rf := h_rf.below bn
        replace bw := xqa bw bn
        clear bn
        go_wp2_with fail
        refine (zqq X HXs.out (4000) (60) (2000) (64) w6 (HT0.out.below bw).1 (es) (0) (0) HV2.out).mono ?_
        rintro e w7 ⟨A_b, n_b, c_b, rfl, h_db, bn⟩
        replace h_da := h_da.below bn
        replace h_rf := h_rf.below bn
        replace bw := xqa bw bn
        clear bn
        have HU_g := Lib.hid (fitsF (0) (0))
        have h_rg := xqd w7 29 (xzw (0) (0))
        have bn := xqc w7 (.cells (xzw (0) (0)) 29)
        replace h_da := h_da.below bn
        replace h_rf := h_rf.below bn
        replace h_db := h_db.below bn
        replace bw := xqa bw bn
        clear bn
        go_wp2_with (refine xqg (by rfl) _ _ _ (by rfl) _ _ _ (by rfl) (by rfl) (by assumption) ?_)
        generalize w7.alloc (.cells (xzw (0) (0)) 29) = w8 at *
        obtain ⟨q_g, eg⟩ : ∃ g, g = w7.heap.size := ⟨_, rfl⟩
        rw [← eg] at h_rg ⊢
        clear eg
        refine (yq2 h_db (fun d hd => xvv (HGe.out d hd)) (HT0.out.below bw).wr X 0 HSW2.out).mono ?_
        rintro e w9 ⟨rfl, bn⟩
        replace h_da := h_da.below bn
        replace h_rf := h_rf.below bn
        replace h_db := h_db.below bn
        replace h_rg := h_rg.below bn
        replace bw := xqa bw bn
        clear bn
        have k0_g := h_rg.cell (k := 0) (v := .int .i64 (0)) rfl
        go_wp2_with fail
        clear k0_g
        refine (kBareS_c h_db (by rw [h_db.len]; have := H60e.out; omega) (fun d hd => by have := (xvv (HGe.out d hd)).tr.1; exact this)).mono ?_
        rintro e w10 ⟨A1, c1, xs1, rfl, ho1, hd1, hm1, bn⟩
        replace h_da := h_da.below bn
        replace h_rf := h_rf.below bn
        replace h_db := h_db.below bn
        replace h_rg := h_rg.below bn
        replace bw := xqa bw bn
        clear bn
        have hr1 := ho1.row hd1.dsr
        rw [hm1] at hr1
        clear ho1 hd1 hm1
        go_wp2_with fail
        refine (kBareS_c h_da (by rw [h_da.len]; have := H60.out; omega) (fun d hd => by have := (xvv (HG.out d hd)).tr.1; exact this)).mono ?_
        rintro e w11 ⟨A2, c2, xs2, rfl, ho2, hd2, hm2, bn⟩
        replace h_da := h_da.below bn
        replace h_rf := h_rf.below bn
        replace h_db := h_db.below bn
        replace h_rg := h_rg.below bn
        replace hr1 := hr1.below bn
        replace bw := xqa bw bn
        clear bn
        have hr2 := ho2.row hd2.dsr
        rw [hm2, ← HK.out] at hr2
        clear ho2 hd2 hm2
        go_wp2_with fail
        refine (kScript_c hr1 hr2 true (eqDs_refl _)).mono ?_
        rintro e w12 ⟨rfl, bn⟩
        replace h_da := h_da.below bn
        replace h_rf := h_rf.below bn
        replace h_db := h_db.below bn
        replace h_rg := h_rg.below bn
        replace hr1 := hr1.below bn
        replace hr2 := hr2.below bn
        replace bw := xqa bw bn
        clear bn
        go_wp2_with fail
        refine (yq1 w12 (Lib.hid (HT0.out.below bw))).mono ?_
        rintro e w13 ⟨rfl, bn⟩
        replace h_da := h_da.below bn
        replace h_rf := h_rf.below bn
        replace h_db := h_db.below bn
        replace h_rg := h_rg.below bn
        replace hr1 := hr1.below bn
        replace hr2 := hr2.below bn
        replace bw := xqa bw bn
        clear bn
        go_wp2
        go_ret
        exact ⟨rfl, bw⟩
   · have e0 : (E != 0) = true := by rw [bne_iff_ne]; exact hE
     have k0_f := h_rf.cell (k := 0) (v := .int .i64 (E)) rfl
     go_wp2_with (refine xqg (by rfl) _ _ _ (by rfl) _ _ _ (by rfl) (by rfl) (by assumption) ?_)
     clear k0_f
     generalize w2.alloc (.cells (xzw (E) (Pp)) 29) = w3 at *
     obtain ⟨q_f, eg⟩ : ∃ g, g = w2.heap.size := ⟨_, rfl⟩
     rw [← eg] at h_rf ⊢
     clear eg
     refine (yq1 w3 (Lib.hid (HT0.out.below bw))).mono ?_
     rintro e w4 ⟨rfl, bn⟩
     replace h_da := h_da.below bn
     replace h_rf := h_rf.below bn
     replace bw := xqa bw bn
     clear bn
     go_wp2
     go_ret
     exact ⟨rfl, bw⟩
theorem tab_of {W : World} (h : laidMet Tryz.prog Rows.writeOnceRow.laid W) : FTab W := by
 refine ⟨⟨⟨?_, ?_⟩, ?_, ?_, ?_⟩, ?_, ?_⟩
 · first | exact xj4 (xqb 0 h) (by decide +kernel) | exact xj4 (xqb 1 h) (by decide +kernel) | exact xj4 (xqb 2 h) (by decide +kernel) | exact xj4 (xqb 3 h) (by decide +kernel) | exact xj4 (xqb 4 h) (by decide +kernel) | exact xj4 (xqb 5 h) (by decide +kernel) | exact xj4 (xqb 6 h) (by decide +kernel) | exact xj4 (xqb 7 h) (by decide +kernel) | exact xj4 (xqb 8 h) (by decide +kernel) | exact xj4 (xqb 9 h) (by decide +kernel) | exact xj4 (xqb 10 h) (by decide +kernel) | exact xj4 (xqb 11 h) (by decide +kernel) | exact xj4 (xqb 12 h) (by decide +kernel) | exact xj4 (xqb 13 h) (by decide +kernel)
 · first | exact xjl (xqb 0 h) (by decide +kernel) | exact xjl (xqb 1 h) (by decide +kernel) | exact xjl (xqb 2 h) (by decide +kernel) | exact xjl (xqb 3 h) (by decide +kernel) | exact xjl (xqb 4 h) (by decide +kernel) | exact xjl (xqb 5 h) (by decide +kernel) | exact xjl (xqb 6 h) (by decide +kernel) | exact xjl (xqb 7 h) (by decide +kernel) | exact xjl (xqb 8 h) (by decide +kernel) | exact xjl (xqb 9 h) (by decide +kernel) | exact xjl (xqb 10 h) (by decide +kernel) | exact xjl (xqb 11 h) (by decide +kernel) | exact xjl (xqb 12 h) (by decide +kernel) | exact xjl (xqb 13 h) (by decide +kernel)
 · first | exact xj1 (xqb 0 h) (by decide +kernel) | exact xj1 (xqb 1 h) (by decide +kernel) | exact xj1 (xqb 2 h) (by decide +kernel) | exact xj1 (xqb 3 h) (by decide +kernel) | exact xj1 (xqb 4 h) (by decide +kernel) | exact xj1 (xqb 5 h) (by decide +kernel) | exact xj1 (xqb 6 h) (by decide +kernel) | exact xj1 (xqb 7 h) (by decide +kernel) | exact xj1 (xqb 8 h) (by decide +kernel) | exact xj1 (xqb 9 h) (by decide +kernel) | exact xj1 (xqb 10 h) (by decide +kernel) | exact xj1 (xqb 11 h) (by decide +kernel) | exact xj1 (xqb 12 h) (by decide +kernel) | exact xj1 (xqb 13 h) (by decide +kernel)
 · first | exact xzl (xqb 0 h) (by decide +kernel) | exact xzl (xqb 1 h) (by decide +kernel) | exact xzl (xqb 2 h) (by decide +kernel) | exact xzl (xqb 3 h) (by decide +kernel) | exact xzl (xqb 4 h) (by decide +kernel) | exact xzl (xqb 5 h) (by decide +kernel) | exact xzl (xqb 6 h) (by decide +kernel) | exact xzl (xqb 7 h) (by decide +kernel) | exact xzl (xqb 8 h) (by decide +kernel) | exact xzl (xqb 9 h) (by decide +kernel) | exact xzl (xqb 10 h) (by decide +kernel) | exact xzl (xqb 11 h) (by decide +kernel) | exact xzl (xqb 12 h) (by decide +kernel) | exact xzl (xqb 13 h) (by decide +kernel)
 · first | exact xzm (xqb 0 h) (by decide +kernel) | exact xzm (xqb 1 h) (by decide +kernel) | exact xzm (xqb 2 h) (by decide +kernel) | exact xzm (xqb 3 h) (by decide +kernel) | exact xzm (xqb 4 h) (by decide +kernel) | exact xzm (xqb 5 h) (by decide +kernel) | exact xzm (xqb 6 h) (by decide +kernel) | exact xzm (xqb 7 h) (by decide +kernel) | exact xzm (xqb 8 h) (by decide +kernel) | exact xzm (xqb 9 h) (by decide +kernel) | exact xzm (xqb 10 h) (by decide +kernel) | exact xzm (xqb 11 h) (by decide +kernel) | exact xzm (xqb 12 h) (by decide +kernel) | exact xzm (xqb 13 h) (by decide +kernel)
 · first | exact xj6 (xqb 0 h) (by decide +kernel) | exact xj6 (xqb 1 h) (by decide +kernel) | exact xj6 (xqb 2 h) (by decide +kernel) | exact xj6 (xqb 3 h) (by decide +kernel) | exact xj6 (xqb 4 h) (by decide +kernel) | exact xj6 (xqb 5 h) (by decide +kernel) | exact xj6 (xqb 6 h) (by decide +kernel) | exact xj6 (xqb 7 h) (by decide +kernel) | exact xj6 (xqb 8 h) (by decide +kernel) | exact xj6 (xqb 9 h) (by decide +kernel) | exact xj6 (xqb 10 h) (by decide +kernel) | exact xj6 (xqb 11 h) (by decide +kernel) | exact xj6 (xqb 12 h) (by decide +kernel) | exact xj6 (xqb 13 h) (by decide +kernel)
 · first | exact xvm (xqb 0 h) (by decide +kernel) | exact xvm (xqb 1 h) (by decide +kernel) | exact xvm (xqb 2 h) (by decide +kernel) | exact xvm (xqb 3 h) (by decide +kernel) | exact xvm (xqb 4 h) (by decide +kernel) | exact xvm (xqb 5 h) (by decide +kernel) | exact xvm (xqb 6 h) (by decide +kernel) | exact xvm (xqb 7 h) (by decide +kernel) | exact xvm (xqb 8 h) (by decide +kernel) | exact xvm (xqb 9 h) (by decide +kernel) | exact xvm (xqb 10 h) (by decide +kernel) | exact xvm (xqb 11 h) (by decide +kernel) | exact xvm (xqb 12 h) (by decide +kernel) | exact xvm (xqb 13 h) (by decide +kernel)
set_option maxRecDepth 100000 in
theorem lifted (os : Os) (started : os.Started) (H : Type) (enc : TypeId × Value → H) :
 ReturnsInHanded {} Tryz.checked os 8 .any (fun w args => (Rows.writeOnceSpec.pre enc Tryz.prog Tryz.f8 [] false w args ∧ laidMetH Tryz.prog Rows.writeOnceRow.laid w) ∧ sizedMet enc Tryz.prog Tryz.f8 (OpenSpec.ofChange Rows.writeOnceSpec) false w args)
  (Rows.writeOnceSpec.post enc Tryz.prog Tryz.f8 false true false false) := by
 refine returnsInHanded_of_change_and (C := Tryz.checked) (X := fun w _ => laidMetH Tryz.prog Rows.writeOnceRow.laid w) (fun _ _ _ hh h => h.of_heap hh) own started (by kernel_rfl) Tryz.func8
  (ChangeSpec.witness_shaped (enc := enc) (C := Tryz.checked) (os := os) (X := fun w _ => laidMetH Tryz.prog Rows.writeOnceRow.laid w) false (World.laidAll Tryz.prog os Rows.writeOnceRow.laid) #[.string ⟨#[]⟩] 8 (World.laidAll_os _ _ _)
    (World.shaped_of_ZipB (by kernel_rfl) (by kernel_rfl)) (by kernel_rfl) (by kernel_rfl) (by kernel_rfl)
    (by rw [MakeChecks.laidMetH_plain _ _ _ (by kernel_rfl)]; exact laidMet_laidAll _ (by kernel_rfl) (by kernel_rfl))) ?_
 intro W base args ds gs before hval0 hW _ _ hL _
 have hval : ∀ (j : Nat) t v, Tryz.f8.params[j]? = some t → args[j]? = some v → Value.okWide Tryz.prog W .any base t v := hval0
 have hW' := hW
 obtain ⟨p, q, hA0, hV, rfl, hfz, hnd⟩ := hW
 have hA : DataW.TrodAll enc Tryz.prog W 0 (fun _ => true) true Tryz.f8.params.toList args.toList ds p := hA0
 rw [Tryz.params8] at hA hval
 obtain ⟨v0, vs0, d0, ds0, p0, q0, hargs, rfl, rfl, h0, r0⟩ := trodAll_cons hA
 obtain ⟨rfl, rfl, rfl⟩ := trodAll_nil r0
 obtain rfl : args = #[v0] := by cases args; simp_all
 obtain ⟨rfl, rfl⟩ := trodVars_none hV
 obtain ⟨a0, rfl, rfl, rfl, w0⟩ := Go.ChangeMaps.open_string Tryz.underlying9 (hval 0 9 v0 rfl rfl) h0
 clear hA0 hval0
 simp only [List.append_nil] at hW'
 rw [MakeChecks.laidMetH_plain _ _ _ (by kernel_rfl)] at hL
 refine (walk a0 W w0 (tab_of hL)).mono fun e W' ⟨he, bel⟩ => ?_
 subst he
 exact ⟨_, rfl, _, _, _, [], _, [], hW', trodAll_mk1 (shut_bool Tryz.underlying4 _), (trodAll_cons_mk (Go.ChangeMaps.shut_string Tryz.underlying9 w0) trodAll_mk0), rfl, bel.frame _, fun h => by cases h⟩
theorem over : Rows.writeOnceRow.holds Tryz.pinned (OpenSpec.ofChange Rows.writeOnceSpec) :=
 OpenClaim.holds_of_wide 8 Tryz.f8 rfl rfl rfl rfl rfl rfl rfl ⟨rfl, rfl, rfl, rfl, rfl⟩ rfl rfl rfl rfl rfl (by kernel_rfl) Tryz.func8 (by kernel_rfl)
  (of_decide_eq_true (by kernel_rfl)) (by unfold Func.isWrapper; first | (rw [if_pos (by decide +kernel)]; kernel_rfl) | (rw [if_neg (by decide +kernel)]; exact ⟨rfl, rfl⟩))
  (fun os started H enc _ => lifted os started H enc)
theorem proved : Rows.WriteOnceCardSaid :=
 Claim7.holds_tied_plain_at .later [] Rows.writeOnceCard.laidKinds true Rows.writeOnceCard.stood.harness Rows.writeOnceCard.stood.looks
  over (fun _ h => by cases h) (by kernel_rfl) (fun _ h => by cases h) writeOnce_row_tie rfl ⟨rfl, rfl⟩ (by kernel_rfl) rfl
  (fun f fn hf hfn => by
    obtain rfl : f = 8 := Option.some.inj ((show Tryz.prog.funcNamed Rows.writeOnceRow.func = some 8 by kernel_rfl).symm.trans hf) |>.symm
    obtain rfl : fn = Tryz.f8 := (Option.some.inj (Tryz.func8.symm.trans hfn)).symm
    exact ⟨by kernel_rfl, fun j t ht => by
     have hm : t ∈ Tryz.f8.params.toList := by simpa using Array.mem_of_getElem? ht
     have hall : (Tryz.f8.params.toList.all fun u => !Tryz.prog.wantsStandIn u) = true := by kernel_rfl
     exact (show Tryz.prog.wantsStandIn t = false by simpa using List.all_eq_true.1 hall t hm)⟩)
  (by kernel_rfl)
end Go.Proofs.YtannifhcjcbkcaaGreatDoor.lawWriteOnce
