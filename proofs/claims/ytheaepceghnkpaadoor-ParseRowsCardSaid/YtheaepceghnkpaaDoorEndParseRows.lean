/- For every two texts ParseRows answers true and leaves its arguments as they were. Conditions: the row's own (the tables of kinds read as the program lays them). -/
import Derived.Test.YtheaepceghnkpaaDoorM10
import Derived.Test.YtheaepceghnkpaaDoorCards
import Derived.Test.YtheaepceghnkpaaDoorTie
import Derived.ChangeMaps5
import Derived.Lay
import Derived.SevenTiedAt
/- For every two texts ParseRows answers true and leaves its arguments as they were. Conditions: the row's own (the tables of kinds read as the program lays them). -/
namespace Go.Proofs.YtheaepceghnkpaaDoor.lawParseRows
open Go.ChangeShapes Go.WideShapes Go.ChangeAt Go.RowKit Limb
set_option linter.unusedVariables false
theorem rows_mild {L : Lim} {ds : List Dc} (h : ∀ d ∈ ds, goodD d = true ∧ (0 ≤ d.at' ∧ d.at' < (L.text : Int)) ∧ True) : True := trivial
theorem good_tr {d : Dc} (h : goodD d = true) : d.tr.length ≤ 1000000 := by
 obtain ⟨_, _, _, _, _, h5⟩ := goodD_sizes h
 rcases h5 with h5 | h5
 · rw [h5]; exact Nat.zero_le _
 · have := (good_mild h5).1; omega
set_option maxHeartbeats 8000000 in
set_option maxRecDepth 100000 in
theorem walk (s_s : ByteArray) (s_t : ByteArray) (w : World) (z_s : s_s.size ≤ maxLen) (y_s : s_s.size ≤ 140737488351232) (z_t : s_t.size ≤ maxLen) (y_t : s_t.size ≤ 140737488351232) (HT : PTab w) :
 Calls Tryd.prog 4 #[.string s_s, .string s_t] w fun e w' => e = .returned (.bool true) ∧ Below w.heap.size w w' := by
 have HT0 := Lib.hid HT
 clear HT
 have hzs : s_s.size ≤ 140737488351232 := y_s
 have hzt : s_t.size ≤ 140737488351232 := y_t
 have HLs := Lib.hid (length_bytesOf s_s)
 have HLt := Lib.hid (length_bytesOf s_t)
 have HBs := Lib.hid (bytes_bytesOf s_s)
 have HBt := Lib.hid (bytes_bytesOf s_t)
 obtain ⟨⟨da, E, Pp⟩, hV⟩ : ∃ x, scrV mostL (bytesOf s_s) = x := ⟨_, rfl⟩
 have HV := Lib.hid hV
 obtain ⟨⟨db, E2, Q2⟩, hV2⟩ : ∃ x, scrV mostL (bytesOf s_t) = x := ⟨_, rfl⟩
 have HV2 := Lib.hid hV2
 clear hV hV2
 have bw := bel_refl w
 have HB0 := Lib.hid bw
 go_enter Tryd.func4, Tryd.ntmps4
 by_cases h30 : 3000 < s_s.size + s_t.size
 · have e30 : (3000 : Int) < (s_s.size : Int) + (s_t.size : Int) := by omega
   go_wp2_with fail
   refine (wakes_any w (Lib.hid (HT0.out.below HB0.out))).mono ?_
   rintro e w9 ⟨rfl, bn⟩
   have HB9 := Lib.hid (below_two HB0.out bn)
   clear bn
   go_wp2
   go_ret
   exact ⟨rfl, HB9.out⟩
 · have e30 : ¬ (3000 : Int) < (s_s.size : Int) + (s_t.size : Int) := by omega
   go_wp2_with fail
   refine (pMost_c w).mono ?_
   rintro e w1 ⟨rfl, bn⟩
   replace bw := below_two bw bn
   clear bn
   go_wp2_with fail
   refine (pScript_c s_s (by omega) (4000) (60) (2000) (64) w1 (HT0.out.below bw) (da) (E) (Pp) (by rw [cutL_most]; exact HV.out)).mono ?_
   rintro e w2 ⟨A_a, n_a, c_a, rfl, h_da, bn⟩
   replace bw := below_two bw bn
   clear bn
   have HU_f := Lib.hid (fitsF (E) (Pp))
   have h_rf := rowA_new w2 28 (fltC (E) (Pp))
   have bn := below_new w2 (.cells (fltC (E) (Pp)) 28)
   replace h_da := h_da.below bn
   replace bw := below_two bw bn
   clear bn
   go_wp2_with (refine wpList_storeNew (by rfl) _ _ _ (by rfl) _ _ _ (by rfl) (by rfl) (by assumption) ?_)
   generalize w2.alloc (.cells (fltC (E) (Pp)) 28) = w3 at *
   obtain ⟨q_f, eg⟩ : ∃ g, g = w2.heap.size := ⟨_, rfl⟩
   rw [← eg] at h_rf ⊢
   clear eg
   refine (pMost_c w3).mono ?_
   rintro e w4 ⟨rfl, bn⟩
   replace h_da := h_da.below bn
   replace h_rf := h_rf.below bn
   replace bw := below_two bw bn
   clear bn
   go_wp2_with fail
   refine (pScript_c s_t (by omega) (4000) (60) (2000) (64) w4 (HT0.out.below bw) (db) (E2) (Q2) (by rw [cutL_most]; exact HV2.out)).mono ?_
   rintro e w5 ⟨A_b, n_b, c_b, rfl, h_db, bn⟩
   replace h_da := h_da.below bn
   replace h_rf := h_rf.below bn
   replace bw := below_two bw bn
   clear bn
   have HU_g := Lib.hid (fitsF (E2) (Q2))
   have h_rg := rowA_new w5 28 (fltC (E2) (Q2))
   have bn := below_new w5 (.cells (fltC (E2) (Q2)) 28)
   replace h_da := h_da.below bn
   replace h_rf := h_rf.below bn
   replace h_db := h_db.below bn
   replace bw := below_two bw bn
   clear bn
   by_cases hE : E = 0
   · skip
     skip
     have e0 : (E != 0) = false := by rw [hE]; rfl
     by_cases hE2 : E2 = 0
     · skip
       have e02 : (E2 != 0) = false := by rw [hE2]; rfl
       have HE := Lib.hid hE
       have HE2 := Lib.hid hE2
       have hV1 := HV.out
       rw [hE] at hV1
       have hV2 := HV2.out
       rw [hE2] at hV2
       obtain ⟨x1, x2, pa, x3, pa5, x4⟩ := scrV_ok mostL_fit HBs.out hV1
       clear x1 x2 x3 x4
       obtain ⟨x1, x2, pb, x3, pb5, x4⟩ := scrV_ok mostL_fit HBt.out hV2
       clear x1 x2 x3 x4
       obtain ⟨dc, E3, R, hV3, hcase⟩ := scrV_rows HBs.out HBt.out (by rw [HLs.out, HLt.out]; omega) hV1 hV2
       have ha60 : n_a ≤ 60 := by rw [h_da.len]; exact pa5
       have hb60 : n_b ≤ 60 := by rw [h_db.len]; exact pb5
       have HNa := Lib.hid h_da.len
       have HNb := Lib.hid h_db.len
       have HPa := Lib.hid pa
       have HPb := Lib.hid pb
       obtain ⟨X, hX⟩ : ∃ X, s_s ++ (⟨#[10]⟩ : ByteArray) ++ s_t = X := ⟨_, rfl⟩
       have hbx : bytesOf X = bytesOf s_s ++ 10 :: bytesOf s_t := by rw [← hX, bytesOf_append, bytesOf_append]; simp [bytesOf]
       have hxs : X.size ≤ 1000000000 := by rw [← length_bytesOf, hbx, List.length_append, List.length_cons, HLs.out, HLt.out]; omega
       rw [← hbx] at hV3
       have HV3 := Lib.hid hV3
       have HC := Lib.hid hcase
       have HXe := Lib.hid hX
       have HXs := Lib.hid hxs
       have HBx := Lib.hid (bytes_bytesOf X)
       clear hE hE2 hV1 hV2 pa pa5 pb pb5 hV3 hcase hX hbx hxs
       obtain ⟨hca, hcma⟩ := h_da.caps
       obtain ⟨hcb, hcmb⟩ := h_db.caps
       have eq1 : maxLen = 9223372036854775807 := rfl
       have k0_f := h_rf.cell (k := 0) (v := .int .i64 (E)) rfl
       have k0_g := h_rg.cell (k := 0) (v := .int .i64 (E2)) rfl
       go_wp2_with (refine wpList_storeNew (by rfl) _ _ _ (by rfl) _ _ _ (by rfl) (by rfl) (by assumption) ?_)
       clear k0_f k0_g
       generalize w5.alloc (.cells (fltC (E2) (Q2)) 28) = w6 at *
       obtain ⟨q_g, eg⟩ : ∃ g, g = w5.heap.size := ⟨_, rfl⟩
       rw [← eg] at h_rg ⊢
       clear eg
       refine (pMost_c w6).mono ?_
       rintro e w7 ⟨rfl, bn⟩
       replace h_da := h_da.below bn
       replace h_rf := h_rf.below bn
       replace h_db := h_db.below bn
       replace h_rg := h_rg.below bn
       replace bw := below_two bw bn
       clear bn
       go_wp2_with fail
       rw [HXe.out]
       refine (pScript_c X HXs.out (4000) (60) (2000) (64) w7 (HT0.out.below bw) (dc) (E3) (R) (by rw [cutL_most]; exact HV3.out)).mono ?_
       rintro e w8 ⟨A_c, n_c, c_c, rfl, h_dc, bn⟩
       replace h_da := h_da.below bn
       replace h_rf := h_rf.below bn
       replace h_db := h_db.below bn
       replace h_rg := h_rg.below bn
       replace bw := below_two bw bn
       clear bn
       have HU_h := Lib.hid (fitsF (E3) (R))
       have h_rh := rowA_new w8 28 (fltC (E3) (R))
       have bn := below_new w8 (.cells (fltC (E3) (R)) 28)
       replace h_da := h_da.below bn
       replace h_rf := h_rf.below bn
       replace h_db := h_db.below bn
       replace h_rg := h_rg.below bn
       replace h_dc := h_dc.below bn
       replace bw := below_two bw bn
       clear bn
       rcases HC.out with h2 | ⟨h0, hab, hbare⟩
       · have e3 : (E3 == 2) = true := by rw [h2]; rfl
         have e4 : (E3 != 0) = true := by rw [h2]; rfl
         clear h2
         by_cases h60 : 60 < n_a + n_b
         · have e60 : (60 : Int) < (n_a : Int) + (n_b : Int) := by omega
           have k0_h := h_rh.cell (k := 0) (v := .int .i64 (E3)) rfl
           go_wp2_with (refine wpList_storeNew (by rfl) _ _ _ (by rfl) _ _ _ (by rfl) (by rfl) (by assumption) ?_)
           clear k0_h
           generalize w8.alloc (.cells (fltC (E3) (R)) 28) = w9 at *
           obtain ⟨q_h, eg⟩ : ∃ g, g = w8.heap.size := ⟨_, rfl⟩
           rw [← eg] at h_rh ⊢
           clear eg
           refine (wakes_any w9 (Lib.hid (HT0.out.below bw))).mono ?_
           rintro e w10 ⟨rfl, bn⟩
           replace h_da := h_da.below bn
           replace h_rf := h_rf.below bn
           replace h_db := h_db.below bn
           replace h_rg := h_rg.below bn
           replace h_dc := h_dc.below bn
           replace h_rh := h_rh.below bn
           replace bw := below_two bw bn
           clear bn
           go_wp2
           go_ret
           exact ⟨rfl, bw⟩
         · have e60 : ¬ (60 : Int) < (n_a : Int) + (n_b : Int) := by omega
           have k0_h := h_rh.cell (k := 0) (v := .int .i64 (E3)) rfl
           go_wp2_with (refine wpList_storeNew (by rfl) _ _ _ (by rfl) _ _ _ (by rfl) (by rfl) (by assumption) ?_)
           clear k0_h
           generalize w8.alloc (.cells (fltC (E3) (R)) 28) = w9 at *
           obtain ⟨q_h, eg⟩ : ∃ g, g = w8.heap.size := ⟨_, rfl⟩
           rw [← eg] at h_rh ⊢
           clear eg
           refine (wakes_any w9 (Lib.hid (HT0.out.below bw))).mono ?_
           rintro e w10 ⟨rfl, bn⟩
           replace h_da := h_da.below bn
           replace h_rf := h_rf.below bn
           replace h_db := h_db.below bn
           replace h_rg := h_rg.below bn
           replace h_dc := h_dc.below bn
           replace h_rh := h_rh.below bn
           replace bw := below_two bw bn
           clear bn
           go_wp2
           go_ret
           exact ⟨rfl, bw⟩
       · have e3 : (E3 != 0) = false := by rw [h0]; rfl
         have e60 : ¬ (60 : Int) < (n_a : Int) + (n_b : Int) := by rw [HNa.out, HNb.out]; omega
         have hV4 := HV3.out
         rw [h0] at hV4
         obtain ⟨x1, x2, pc, x3, pc5, x4⟩ := scrV_ok mostL_fit HBx.out hV4
         clear x1 x2 x3 x4
         have hc60 : n_c ≤ 60 := by rw [h_dc.len]; exact pc5
         have HPc := Lib.hid pc
         have HBa := Lib.hid hbare
         clear hV4 pc pc5 hbare h0 hab
         have k0_h := h_rh.cell (k := 0) (v := .int .i64 (E3)) rfl
         go_wp2_with (refine wpList_storeNew (by rfl) _ _ _ (by rfl) _ _ _ (by rfl) (by rfl) (by assumption) ?_)
         clear k0_h
         generalize w8.alloc (.cells (fltC (E3) (R)) 28) = w9 at *
         obtain ⟨q_h, eg⟩ : ∃ g, g = w8.heap.size := ⟨_, rfl⟩
         rw [← eg] at h_rh ⊢
         clear eg
         refine (kBareS_c h_dc (by omega) (fun d hd => good_tr (HPc.out d hd).1)).mono ?_
         rintro e w10 ⟨A1, c1, xs1, rfl, ho1, hd1, hm1, bn⟩
         replace h_da := h_da.below bn
         replace h_rf := h_rf.below bn
         replace h_db := h_db.below bn
         replace h_rg := h_rg.below bn
         replace h_dc := h_dc.below bn
         replace h_rh := h_rh.below bn
         replace bw := below_two bw bn
         clear bn
         go_wp2_with fail
         refine (kBareS_c h_da (by omega) (fun d hd => good_tr (HPa.out d hd).1)).mono ?_
         rintro e w11 ⟨A2, c2, xs2, rfl, ho2, hd2, hm2, bn⟩
         have hl1 : ∀ g, Value.ownBlock (.slice A1 n_c c1) = some g → g < w10.heap.size := fun g e => (ho1.2.lt g e).2
         have hw1 := bw.size
         replace ho1 := ho1.below bn
         replace hd1 := hd1.below bn
         obtain ⟨base2, hbs2⟩ : ∃ b, b = w10.heap.size := ⟨_, rfl⟩
         rw [← hbs2] at ho2 hl1 hw1
         have HL1 := Lib.hid hl1
         have HW1 := Lib.hid hw1
         have hbl2 : base2 ≤ w11.heap.size := by rw [hbs2]; exact bn.size
         have HBb := Lib.hid hbl2
         clear hbs2 hbl2 hl1 hw1
         replace h_da := h_da.below bn
         replace h_rf := h_rf.below bn
         replace h_db := h_db.below bn
         replace h_rg := h_rg.below bn
         replace h_dc := h_dc.below bn
         replace h_rh := h_rh.below bn
         replace bw := below_two bw bn
         clear bn
         go_wp2_with fail
         refine (kBareS_c h_db (by omega) (fun d hd => good_tr (HPb.out d hd).1)).mono ?_
         rintro e w12 ⟨A3, c3, xs3, rfl, ho3, hd3, hm3, bn⟩
         replace ho1 := ho1.below bn
         replace hd1 := hd1.below bn
         replace ho2 := ho2.below bn
         replace hd2 := hd2.below bn
         replace HBb := Lib.hid (Nat.le_trans HBb.out bn.size)
         replace h_da := h_da.below bn
         replace h_rf := h_rf.below bn
         replace h_db := h_db.below bn
         replace h_rg := h_rg.below bn
         replace h_dc := h_dc.below bn
         replace h_rh := h_rh.below bn
         replace bw := below_two bw bn
         clear bn
         have HO2 : Hid (w12.ownsRow base2 49 9 (.slice A2 n_a c2) n_a (dcCells xs2)) := ho2.2
         have HO3 := Lib.hid ho3
         have HEx : Hid (n_a ≤ 1000000 ∧ n_b ≤ 1000000 ∧ base2 ≤ w12.heap.size) := ⟨by omega, by omega, HBb.out⟩
         have HOd := Lib.hid ho2
         have HD2 := Lib.hid hd2
         have HD3 := Lib.hid hd3
         have HD1 := Lib.hid hd1
         have HO1 := Lib.hid ho1
         have HBW := Lib.hid bw
         have HM1 := Lib.hid hm1
         have HM2 := Lib.hid hm2
         have HM3 := Lib.hid hm3
         clear ho1 ho2 ho3 hd1 hd2 hd3 bw hm1 hm2 hm3 h_da h_rf h_db h_rg h_dc h_rh
         have hc2 := HOd.out.2.caps
         have hc3 := HO3.out.2.caps
         obtain ⟨hc21, hc22⟩ := hc2
         obtain ⟨hc31, hc32⟩ := hc3
         go_wp2_with (at_builtin; refine wpList_append_ds rfl _ _ rfl base2 (.slice A2 n_a c2) n_a xs2 (by rfl) HO2 _ A3 n_b c3 xs3 (by rfl) HO3 HEx ?_)
         intro A6 c6 w6 hO6 hg6
         have ho6 : OwnD w6 base2 A6 (n_a + n_b) c6 (xs2 ++ xs3) := ⟨by rw [List.length_append, ← HOd.out.1, ← HO3.out.1], hO6.out⟩
         have hd6 : DsO w6 (xs2 ++ xs3) := fun y hy => by
          rcases List.mem_append.1 hy with hy | hy
          · exact (HD2.out.grown HOd.out hg6.out) y hy
          · exact (HD3.out.grown HOd.out hg6.out) y hy
         have hd1 := HD1.out.grown HOd.out hg6.out
         have ho1 : OwnD w6 _ A1 n_c c1 xs1 := ⟨HO1.out.1, HO1.out.2.over hg6.out fun g e e1 => by have h1 := HL1.out g e1; have h2 := (HOd.out.2.lt g e).1; omega⟩
         have bw : Below w.heap.size w w6 := HBW.out.grown hg6.out HBW.out.size fun g e => by have h2 := (HOd.out.2.lt g e).1; have := HW1.out; omega
         have hr1 := ho1.row hd1.dsr
         rw [HM1.out] at hr1
         have hr2 := ho6.row hd6.dsr
         rw [List.map_append, HM2.out, HM3.out, ← List.map_append, ← HBa.out] at hr2
         clear hO6 hg6 ho6 hd6 hd1 ho1 HO2 HO3 HEx HOd HD2 HD3 HD1 HO1 HBW HM1 HM2 HM3 HL1
         go_wp2_with fail
         refine (kScript_c hr1 hr2 true (eqDs_refl _)).mono ?_
         rintro e w13 ⟨rfl, bn⟩
         replace bw := below_two bw bn
         clear bn
         go_wp2_with fail
         refine (wakes_any w13 (Lib.hid (HT0.out.below bw))).mono ?_
         rintro e w14 ⟨rfl, bn⟩
         replace bw := below_two bw bn
         clear bn
         go_wp2
         go_ret
         exact ⟨rfl, bw⟩
     · have e02 : (E2 != 0) = true := by rw [bne_iff_ne]; exact hE2
       have k0_f := h_rf.cell (k := 0) (v := .int .i64 (E)) rfl
       have k0_g := h_rg.cell (k := 0) (v := .int .i64 (E2)) rfl
       go_wp2_with (refine wpList_storeNew (by rfl) _ _ _ (by rfl) _ _ _ (by rfl) (by rfl) (by assumption) ?_)
       clear k0_f k0_g
       generalize w5.alloc (.cells (fltC (E2) (Q2)) 28) = w6 at *
       obtain ⟨q_g, eg⟩ : ∃ g, g = w5.heap.size := ⟨_, rfl⟩
       rw [← eg] at h_rg ⊢
       clear eg
       refine (wakes_any w6 (Lib.hid (HT0.out.below bw))).mono ?_
       rintro e w7 ⟨rfl, bn⟩
       replace h_da := h_da.below bn
       replace h_rf := h_rf.below bn
       replace h_db := h_db.below bn
       replace h_rg := h_rg.below bn
       replace bw := below_two bw bn
       clear bn
       go_wp2
       go_ret
       exact ⟨rfl, bw⟩
   · have e0 : (E != 0) = true := by rw [bne_iff_ne]; exact hE
     have k0_f := h_rf.cell (k := 0) (v := .int .i64 (E)) rfl
     go_wp2_with (refine wpList_storeNew (by rfl) _ _ _ (by rfl) _ _ _ (by rfl) (by rfl) (by assumption) ?_)
     clear k0_f
     generalize w5.alloc (.cells (fltC (E2) (Q2)) 28) = w6 at *
     obtain ⟨q_g, eg⟩ : ∃ g, g = w5.heap.size := ⟨_, rfl⟩
     rw [← eg] at h_rg ⊢
     clear eg
     refine (wakes_any w6 (Lib.hid (HT0.out.below bw))).mono ?_
     rintro e w7 ⟨rfl, bn⟩
     replace h_da := h_da.below bn
     replace h_rf := h_rf.below bn
     replace h_db := h_db.below bn
     replace h_rg := h_rg.below bn
     replace bw := below_two bw bn
     clear bn
     go_wp2
     go_ret
     exact ⟨rfl, bw⟩
theorem tab_of {W : World} (h : laidMet Tryd.prog Rows.parseRowsRow.laid W) : PTab W := by
 refine ⟨⟨?_, ?_⟩, ?_, ?_, ?_⟩
 · first | exact kinds_tab (laidMet_drop 0 h) (by decide +kernel) | exact kinds_tab (laidMet_drop 1 h) (by decide +kernel) | exact kinds_tab (laidMet_drop 2 h) (by decide +kernel) | exact kinds_tab (laidMet_drop 3 h) (by decide +kernel) | exact kinds_tab (laidMet_drop 4 h) (by decide +kernel) | exact kinds_tab (laidMet_drop 5 h) (by decide +kernel) | exact kinds_tab (laidMet_drop 6 h) (by decide +kernel) | exact kinds_tab (laidMet_drop 7 h) (by decide +kernel) | exact kinds_tab (laidMet_drop 8 h) (by decide +kernel) | exact kinds_tab (laidMet_drop 9 h) (by decide +kernel) | exact kinds_tab (laidMet_drop 10 h) (by decide +kernel) | exact kinds_tab (laidMet_drop 11 h) (by decide +kernel) | exact kinds_tab (laidMet_drop 12 h) (by decide +kernel) | exact kinds_tab (laidMet_drop 13 h) (by decide +kernel)
 · first | exact lkinds_tab (laidMet_drop 0 h) (by decide +kernel) | exact lkinds_tab (laidMet_drop 1 h) (by decide +kernel) | exact lkinds_tab (laidMet_drop 2 h) (by decide +kernel) | exact lkinds_tab (laidMet_drop 3 h) (by decide +kernel) | exact lkinds_tab (laidMet_drop 4 h) (by decide +kernel) | exact lkinds_tab (laidMet_drop 5 h) (by decide +kernel) | exact lkinds_tab (laidMet_drop 6 h) (by decide +kernel) | exact lkinds_tab (laidMet_drop 7 h) (by decide +kernel) | exact lkinds_tab (laidMet_drop 8 h) (by decide +kernel) | exact lkinds_tab (laidMet_drop 9 h) (by decide +kernel) | exact lkinds_tab (laidMet_drop 10 h) (by decide +kernel) | exact lkinds_tab (laidMet_drop 11 h) (by decide +kernel) | exact lkinds_tab (laidMet_drop 12 h) (by decide +kernel) | exact lkinds_tab (laidMet_drop 13 h) (by decide +kernel)
 · first | exact words_tab (laidMet_drop 0 h) (by decide +kernel) | exact words_tab (laidMet_drop 1 h) (by decide +kernel) | exact words_tab (laidMet_drop 2 h) (by decide +kernel) | exact words_tab (laidMet_drop 3 h) (by decide +kernel) | exact words_tab (laidMet_drop 4 h) (by decide +kernel) | exact words_tab (laidMet_drop 5 h) (by decide +kernel) | exact words_tab (laidMet_drop 6 h) (by decide +kernel) | exact words_tab (laidMet_drop 7 h) (by decide +kernel) | exact words_tab (laidMet_drop 8 h) (by decide +kernel) | exact words_tab (laidMet_drop 9 h) (by decide +kernel) | exact words_tab (laidMet_drop 10 h) (by decide +kernel) | exact words_tab (laidMet_drop 11 h) (by decide +kernel) | exact words_tab (laidMet_drop 12 h) (by decide +kernel) | exact words_tab (laidMet_drop 13 h) (by decide +kernel)
 · first | exact errs_tab (laidMet_drop 0 h) (by decide +kernel) | exact errs_tab (laidMet_drop 1 h) (by decide +kernel) | exact errs_tab (laidMet_drop 2 h) (by decide +kernel) | exact errs_tab (laidMet_drop 3 h) (by decide +kernel) | exact errs_tab (laidMet_drop 4 h) (by decide +kernel) | exact errs_tab (laidMet_drop 5 h) (by decide +kernel) | exact errs_tab (laidMet_drop 6 h) (by decide +kernel) | exact errs_tab (laidMet_drop 7 h) (by decide +kernel) | exact errs_tab (laidMet_drop 8 h) (by decide +kernel) | exact errs_tab (laidMet_drop 9 h) (by decide +kernel) | exact errs_tab (laidMet_drop 10 h) (by decide +kernel) | exact errs_tab (laidMet_drop 11 h) (by decide +kernel) | exact errs_tab (laidMet_drop 12 h) (by decide +kernel) | exact errs_tab (laidMet_drop 13 h) (by decide +kernel)
 · first | exact errr_tab (laidMet_drop 0 h) (by decide +kernel) | exact errr_tab (laidMet_drop 1 h) (by decide +kernel) | exact errr_tab (laidMet_drop 2 h) (by decide +kernel) | exact errr_tab (laidMet_drop 3 h) (by decide +kernel) | exact errr_tab (laidMet_drop 4 h) (by decide +kernel) | exact errr_tab (laidMet_drop 5 h) (by decide +kernel) | exact errr_tab (laidMet_drop 6 h) (by decide +kernel) | exact errr_tab (laidMet_drop 7 h) (by decide +kernel) | exact errr_tab (laidMet_drop 8 h) (by decide +kernel) | exact errr_tab (laidMet_drop 9 h) (by decide +kernel) | exact errr_tab (laidMet_drop 10 h) (by decide +kernel) | exact errr_tab (laidMet_drop 11 h) (by decide +kernel) | exact errr_tab (laidMet_drop 12 h) (by decide +kernel) | exact errr_tab (laidMet_drop 13 h) (by decide +kernel)
set_option maxRecDepth 100000 in
theorem lifted (os : Os) (started : os.Started) (H : Type) (enc : TypeId × Value → H) :
 ReturnsInHanded {} Tryd.checked os 4 .any (fun w args => (Rows.parseRowsSpec.pre enc Tryd.prog Tryd.f4 [] false w args ∧ laidMetH Tryd.prog Rows.parseRowsRow.laid w) ∧ sizedMet enc Tryd.prog Tryd.f4 (OpenSpec.ofChange Rows.parseRowsSpec) false w args)
  (Rows.parseRowsSpec.post enc Tryd.prog Tryd.f4 false true false false) := by
 refine returnsInHanded_of_change_and (C := Tryd.checked) (X := fun w _ => laidMetH Tryd.prog Rows.parseRowsRow.laid w) (fun _ _ _ hh h => h.of_heap hh) own started (by kernel_rfl) Tryd.func4
  (ChangeSpec.witness_shaped (enc := enc) (C := Tryd.checked) (os := os) (X := fun w _ => laidMetH Tryd.prog Rows.parseRowsRow.laid w) false (World.laidAll Tryd.prog os Rows.parseRowsRow.laid) #[.string ⟨#[]⟩, .string ⟨#[]⟩] 8 (World.laidAll_os _ _ _)
    (World.shaped_of_ZipB (by kernel_rfl) (by kernel_rfl)) (by kernel_rfl) (by kernel_rfl) (by kernel_rfl)
    (by rw [MakeChecks.laidMetH_plain _ _ _ (by kernel_rfl)]; exact laidMet_laidAll _ (by kernel_rfl) (by kernel_rfl))) ?_
 intro W base args ds gs before hval0 hW _ hwt hL _
 have hval : ∀ (j : Nat) t v, Tryd.f4.params[j]? = some t → args[j]? = some v → Value.okWide Tryd.prog W .any base t v := hval0
 have hW' := hW
 obtain ⟨p, q, hA0, hV, rfl, hfz, hnd⟩ := hW
 have hA : DataW.TrodAll enc Tryd.prog W 0 (fun _ => true) true Tryd.f4.params.toList args.toList ds p := hA0
 rw [Tryd.params4] at hA hval hwt
 obtain ⟨v0, vs0, d0, ds0, p0, q0, hargs, rfl, rfl, h0, r0⟩ := trodAll_cons hA
 obtain ⟨v1, vs1, d1, ds1, p1, q1, rfl, rfl, rfl, h1, r1⟩ := trodAll_cons r0
 obtain ⟨rfl, rfl, rfl⟩ := trodAll_nil r1
 obtain rfl : args = #[v0, v1] := by cases args; simp_all
 obtain ⟨rfl, rfl⟩ := trodVars_none hV
 obtain ⟨a0, rfl, rfl, rfl, w0⟩ := Go.ChangeMaps.open_string Tryd.underlying9 (hval 0 9 v0 rfl rfl) h0
 obtain ⟨a1, rfl, rfl, rfl, w1⟩ := Go.ChangeMaps.open_string Tryd.underlying9 (hval 1 9 v1 rfl rfl) h1
 clear hA0 hval0
 have hwt2 := List.all_eq_true.1 hwt
 have y0 : a0.size ≤ 140737488351232 := by
  have h : decide (a0.data.toList.length ≤ reachBytes) = true := hwt2 (a0.data.toList.length) (by simp [DataW.weightsEach, DataW.weights])
  simpa [reachBytes] using of_decide_eq_true h
 have y1 : a1.size ≤ 140737488351232 := by
  have h : decide (a1.data.toList.length ≤ reachBytes) = true := hwt2 (a1.data.toList.length) (by simp [DataW.weightsEach, DataW.weights])
  simpa [reachBytes] using of_decide_eq_true h
 simp only [List.append_nil] at hW'
 rw [MakeChecks.laidMetH_plain _ _ _ (by kernel_rfl)] at hL
 refine (walk a0 a1 W w0 y0 w1 y1 (tab_of hL)).mono fun e W' ⟨he, bel⟩ => ?_
 subst he
 exact ⟨_, rfl, _, _, _, [], _, [], hW', trodAll_mk1 (shut_bool Tryd.underlying4 _), (trodAll_cons_mk (Go.ChangeMaps.shut_string Tryd.underlying9 w0) (trodAll_cons_mk (Go.ChangeMaps.shut_string Tryd.underlying9 w1) trodAll_mk0)), rfl, bel.frame _, fun h => by cases h⟩
theorem over : Rows.parseRowsRow.holds Tryd.pinned (OpenSpec.ofChange Rows.parseRowsSpec) :=
 OpenClaim.holds_of_wide 4 Tryd.f4 rfl rfl rfl rfl rfl rfl rfl ⟨rfl, rfl, rfl, rfl, rfl⟩ rfl rfl rfl rfl rfl (by kernel_rfl) Tryd.func4 (by kernel_rfl)
  (of_decide_eq_true (by kernel_rfl)) (by unfold Func.isWrapper; first | (rw [if_pos (by decide +kernel)]; kernel_rfl) | (rw [if_neg (by decide +kernel)]; exact ⟨rfl, rfl⟩))
  (fun os started H enc _ => lifted os started H enc)
theorem proved : Rows.ParseRowsCardSaid :=
 Claim7.holds_tied_plain_at .later [] Rows.parseRowsCard.laidKinds true Rows.parseRowsCard.stood.harness Rows.parseRowsCard.stood.looks
  over (fun _ h => by cases h) (by kernel_rfl) (fun _ h => by cases h) parseRows_row_tie rfl ⟨rfl, rfl⟩ (by kernel_rfl) rfl
  (fun f fn hf hfn => by
    obtain rfl : f = 4 := Option.some.inj ((show Tryd.prog.funcNamed Rows.parseRowsRow.func = some 4 by kernel_rfl).symm.trans hf) |>.symm
    obtain rfl : fn = Tryd.f4 := (Option.some.inj (Tryd.func4.symm.trans hfn)).symm
    exact ⟨by kernel_rfl, fun j t ht => by
     have hm : t ∈ Tryd.f4.params.toList := by simpa using Array.mem_of_getElem? ht
     have hall : (Tryd.f4.params.toList.all fun u => !Tryd.prog.wantsStandIn u) = true := by kernel_rfl
     exact (show Tryd.prog.wantsStandIn t = false by simpa using List.all_eq_true.1 hall t hm)⟩)
  (by kernel_rfl)
end Go.Proofs.YtheaepceghnkpaaDoor.lawParseRows
