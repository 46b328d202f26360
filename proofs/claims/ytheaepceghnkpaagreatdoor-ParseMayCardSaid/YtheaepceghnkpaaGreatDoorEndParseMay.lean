/- For every text and all limits ParseMay answers true and leaves its arguments as they were. Conditions: the row's own (the tables of kinds read as the program lays them). -/
import Derived.Test.YtheaepceghnkpaaGreatDoorM10
import Derived.Test.YtheaepceghnkpaaGreatDoorCards
import Derived.Test.YtheaepceghnkpaaGreatDoorTie
import Derived.ChangeMaps5
import Derived.Lay
import Derived.SevenTiedAt
/- For every text and all limits ParseMay answers true and leaves its arguments as they were. Conditions: the row's own (the tables of kinds read as the program lays them). -/
namespace Go.Proofs.YtheaepceghnkpaaGreatDoor.lawParseMay
open Go.ChangeShapes Go.WideShapes Go.ChangeAt Go.RowKit Limb
set_option linter.unusedVariables false
theorem dc_mild {d : Dc} (h : goodD d = true) : Mild d.tr ∧ (strOf d.nm).size ≤ 1000 ∧ (strOf d.ot).size ≤ 1000 ∧ (strOf d.nu).size ≤ 1000 ∧ (strOf d.va).size ≤ 1000 := by
 obtain ⟨h1, h2, h3, h4, _, h5⟩ := goodD_sizes h
 refine ⟨?_, by rw [size_strOf]; exact h1, by rw [size_strOf]; exact h2, by rw [size_strOf]; exact h3, by rw [size_strOf]; exact h4⟩
 rcases h5 with h5 | h5
 · rw [h5]; exact ⟨Nat.zero_le _, fun x hx => by cases hx⟩
 · obtain ⟨g1, g2⟩ := good_mild h5
   exact ⟨by omega, fun x hx => by have := g2 x hx; omega⟩
set_option maxHeartbeats 8000000 in
set_option maxRecDepth 100000 in
theorem walk (s_s : ByteArray) (t_l d_l n_l p_l : Int) (w : World) (z_s : s_s.size ≤ maxLen) (f_l : (Lit.int .i64 t_l).wf = true) (g_l : (Lit.int .i64 d_l).wf = true) (i_l : (Lit.int .i64 n_l).wf = true) (j_l : (Lit.int .i64 p_l).wf = true) (HT : PTab w) :
 Calls Tryz.prog 4 #[.string s_s, .agg #[.int .i64 t_l, .int .i64 d_l, .int .i64 n_l, .int .i64 p_l]] w fun e w' => e = .returned (.bool true) ∧ Below w.heap.size w w' := by
 have HT0 := Lib.hid HT
 clear HT
 have hz : s_s.size ≤ 9223372036854775807 := z_s
 have HLs := Lib.hid (length_bytesOf s_s)
 have HBy := Lib.hid (bytes_bytesOf s_s)
 obtain ⟨L, hL⟩ : ∃ L, cutL t_l d_l n_l p_l = L := ⟨_, rfl⟩
 have HFit : Hid L.Fit := by show _; rw [← hL]; exact cutL_fit _ _ _ _
 obtain ⟨⟨ds, E, Pp⟩, hV⟩ : ∃ x, scrV L (bytesOf s_s) = x := ⟨_, rfl⟩
 have HV := Lib.hid hV
 obtain ⟨c1, c2, c3, c4⟩ := cutL_is t_l d_l n_l p_l
 rw [hL] at c1 c2 c3 c4
 have HLc := Lib.hid hL
 have HC := Lib.hid (And.intro c1 (And.intro c2 (And.intro c3 c4)))
 clear hV c1 c2 c3 c4 hL f_l g_l i_l j_l
 have bw := bel_refl w
 have h_rl := rowA_new w 23 (limC t_l d_l n_l p_l)
 have bn := below_new w (.cells (limC t_l d_l n_l p_l) 23)
 replace bw := below_two bw bn
 clear bn
 go_enter Tryz.func4, Tryz.ntmps4
 go_upto_region 1 with fail
 generalize w.alloc (.cells (limC t_l d_l n_l p_l) 23) = w0 at *
 obtain ⟨q_l, eg⟩ : ∃ g, g = w.heap.size := ⟨_, rfl⟩
 rw [← eg] at h_rl ⊢
 clear eg
 have HB0 := Lib.hid bw
 by_cases h45 : 4500 < s_s.size
 · go_wp2_with fail
   refine (wakes_any w0 (Lib.hid (HT0.out.below HB0.out))).mono ?_
   rintro e w9 ⟨rfl, bn⟩
   have HB9 := Lib.hid (below_two HB0.out bn)
   clear bn
   go_wp2
   go_ret
   exact ⟨rfl, HB9.out⟩
 · skip
   have HM_l := Lib.hid (manyLim t_l d_l n_l p_l)
   have HI_l := Lib.hid h_rl.inV
   go_wp2_with (refine wpList_loadV (by rfl) _ _ (by rfl) _ _ (by rfl) _ (by assumption) (by assumption) ?_)
   clear HI_l HM_l
   refine (pScript_c s_s (by omega) (t_l) (d_l) (n_l) (p_l) w0 (HT0.out.below bw) (ds) (E) (Pp) (by rw [HLc.out]; exact HV.out)).mono ?_
   rintro e w1 ⟨A_a, n_a, c_a, rfl, h_da, bn⟩
   replace h_rl := h_rl.below bn
   replace bw := below_two bw bn
   clear bn
   have HU_f := Lib.hid (fitsF (E) (Pp))
   have h_rf := rowA_new w1 29 (fltC (E) (Pp))
   have bn := below_new w1 (.cells (fltC (E) (Pp)) 29)
   replace h_rl := h_rl.below bn
   replace h_da := h_da.below bn
   replace bw := below_two bw bn
   clear bn
   by_cases hE : E = 0
   · skip
     subst hE
     obtain ⟨p0, p1, p2, p3, p4, p5⟩ := scrV_ok HFit.out HBy.out HV.out
     have hPp : Pp = 0 := p0
     subst hPp
     have hx0 : n_a = ds.length := h_da.len
     have hdl : n_a ≤ 60 := by omega
     have HN := Lib.hid hx0
     have HP2 := Lib.hid p2
     have HP5 := Lib.hid p5
     have hsl : s_s.size ≤ L.text := by rw [← HLs.out]; exact p1
     have HP3 := Lib.hid p3
     clear p0 p1 p2 p3 p4 p5 hx0
     obtain ⟨hca, hcm⟩ := h_da.caps
     have eq1 : maxLen = 9223372036854775807 := rfl
     have k0_f := h_rf.cell (k := 0) (v := .int .i64 (0)) rfl
     skip
     have HI_l := Lib.hid h_rl.inV
     have HM_l := Lib.hid (manyLim t_l d_l n_l p_l)
     go_wp2_with (first | (refine wpList_loadV (by rfl) _ _ (by rfl) _ _ (by rfl) _ (by assumption) (by assumption) ?_) | (refine wpList_storeNew (by rfl) _ _ _ (by rfl) _ _ _ (by rfl) (by rfl) (by assumption) ?_))
     clear k0_f HI_l HM_l
     generalize w1.alloc (.cells (fltC (0) (0)) 29) = w2 at *
     obtain ⟨q_f, eg⟩ : ∃ g, g = w1.heap.size := ⟨_, rfl⟩
     rw [← eg] at h_rf ⊢
     clear eg
     refine (rCut_c t_l d_l n_l p_l w2).mono ?_
     rintro e w3 ⟨rfl, bn⟩
     replace h_rl := h_rl.below bn
     replace h_da := h_da.below bn
     replace h_rf := h_rf.below bn
     replace bw := below_two bw bn
     clear bn
     rw [HC.out.1, HC.out.2.1, HC.out.2.2.1, HC.out.2.2.2]
     obtain ⟨tx, dx, nx, px⟩ := L
     dsimp only at hsl ⊢
     have hnx : nx ≤ 2000 := HFit.out.1
     have hpx : px ≤ 64 := HFit.out.2.1
     have htx : tx ≤ 4000 := HFit.out.2.2.2
     have HP3b : Hid (ndsD ds ≤ nx) := HP3.out
     clear HC HP3
     have HU_c := Lib.hid (fitsLim (tx : Int) (dx : Int) (nx : Int) (px : Int))
     have h_rc := rowA_new w3 23 (limC (tx : Int) (dx : Int) (nx : Int) (px : Int))
     have bn := below_new w3 (.cells (limC (tx : Int) (dx : Int) (nx : Int) (px : Int)) 23)
     replace h_rl := h_rl.below bn
     replace h_da := h_da.below bn
     replace h_rf := h_rf.below bn
     replace bw := below_two bw bn
     clear bn
     go_wp2_with (refine wpList_storeNew (by rfl) _ _ _ (by rfl) _ _ _ (by rfl) (by rfl) (by assumption) ?_)
     generalize w3.alloc (.cells (limC (tx : Int) (dx : Int) (nx : Int) (px : Int)) 23) = w4 at *
     obtain ⟨q_c, eg⟩ : ∃ g, g = w3.heap.size := ⟨_, rfl⟩
     rw [← eg] at h_rc ⊢
     clear eg
     have HA := Lib.hid h_da
     have HCx := Lib.hid h_rc
     have HBw := Lib.hid bw
     have HFx := Lib.hid h_rf
     clear h_da h_rc bw h_rf h_rl
     generalize w4 = wL at *
     go_loopw [8, 9] (fun m i wr => ∃ k : Nat, i = .int .i64 (k : Int) ∧ m = .int .i64 (ndsD (ds.take k) : Int) ∧ k ≤ n_a ∧ Hid (Below wL.heap.size wL wr)) (fun _ i _ => n_a - (intOf i).toNat)
     case atStart => exact ⟨0, rfl, rfl, Nat.zero_le _, Below.refl _ _⟩
     case round =>
      obtain ⟨k, rfl, rfl, hk, HB⟩ := hrel
      by_cases hlt : k < n_a
      · skip
        obtain ⟨d, hd⟩ : ∃ d, ds[k]? = some d := ⟨_, List.getElem?_eq_getElem (by rw [← HN.out]; exact hlt)⟩
        obtain ⟨gd, gat, gnd⟩ := HP2.out d (List.mem_of_getElem? hd)
        obtain ⟨gat1, gat2⟩ := gat
        rw [HLs.out] at gat2
        have HGN := Lib.hid gnd
        obtain ⟨hmi, hs1, hs2, hs3, hs4⟩ := dc_mild gd
        have hnk := ndsD_next hd
        have hnl := Nat.le_trans (ndsD_le ds (k + 1)) HP3b.out
        obtain ⟨m0, hm0⟩ : ∃ m, ndsD (ds.take k) = m := ⟨_, rfl⟩
        rw [hm0] at hnk ⊢
        have HNk := Lib.hid hnk
        have hm0l : m0 + d.tr.length ≤ 2000 := by omega
        clear hm0 hnk hnl
        obtain ⟨g, og, A1, q1, c1, nm1, ot1, nu1, va1, un1, rfl, hg, hin, ht1, u1, u2, u3, u4, u5⟩ := (HA.out.below HB.out).at2 hd
        have hq1 : q1 = d.tr.length := ht1.1
        have hqc := ht1.2.1
        have hqm := ht1.2.2.1
        rw [u1] at hs1
        rw [u2] at hs2
        rw [u3] at hs3
        rw [u4] at hs4
        skip
        have HGd := Lib.hid (rDGood_c (d := d) u1 u2 u3 u4 u5 ht1 hmi ⟨by omega, by omega, by omega, by omega⟩ gd)
        have HIn := Lib.hid hin
        have HT1 := Lib.hid ht1
        have hgl := Lib.hid hg
        have HI_x : Hid (InV wr g (og + k * 9) (dcC d.k nm1 ot1 nu1 va1 un1 A1 q1 c1 d.pl d.at')) := hin
        have HM_x := Lib.hid (manyDc d.k nm1 ot1 nu1 va1 un1 A1 q1 c1 d.pl d.at')
        have hm0q : m0 + q1 ≤ 2000 := by omega
        have HQ1 := Lib.hid hq1
        have HDk := Lib.hid hd
        clear hd gnd gd hmi hin ht1 hg u1 u2 u3 u4 u5 hq1 hs1 hs2 hs3 hs4 hm0l
        go_wp2_with (refine wpList_loadV (by rfl) _ _ (by rfl) _ _ (by rfl) _ (by assumption) (by assumption) ?_)
        refine (HGd.out).mono ?_
        rintro e wG ⟨rfl, bn⟩
        have hinG := HIn.out.below hgl.out bn
        have x8 := hinG 8 (.int .i64 d.at') rfl
        have x6 := hinG 6 (.slice A1 q1 c1) rfl
        have HTG := Lib.hid (HT1.out.below bn)
        have HBG := Lib.hid (below_two HB.out bn)
        have HIG := Lib.hid hinG
        have hglG : Hid (g < wG.heap.size) := Nat.lt_of_lt_of_le hgl.out bn.size
        obtain ⟨at9, hat9⟩ : ∃ z, d.at' = z := ⟨_, rfl⟩
        rw [hat9] at x8 gat1 gat2
        clear bn hinG HGd HIn HT1 HB hgl HI_x HM_x hat9
        go_wp2
        go_loopw [10] (fun i2 wr2 => ∃ j : Nat, i2 = .int .i64 (j : Int) ∧ j ≤ q1 ∧ Hid (Below wG.heap.size wG wr2)) (fun i2 _ => q1 - (intOf i2).toNat)
        case atStart => exact ⟨0, rfl, Nat.zero_le _, Below.refl _ _⟩
        case round =>
         obtain ⟨j, rfl, hj, HB2⟩ := hrel
         have hin2 := HIG.out.below hglG.out HB2.out
         have y6 := hin2 6 (.slice A1 q1 c1) rfl
         clear hin2 x6 x8
         by_cases hjl : j < q1
         · skip
           obtain ⟨x, hx⟩ : ∃ x, d.tr[j]? = some x := ⟨_, List.getElem?_eq_getElem (by rw [← HQ1.out]; exact hjl)⟩
           obtain ⟨⟨p1, p2⟩, p3⟩ := HGN.out x (List.mem_of_getElem? hx)
           rw [HLs.out] at p2
           obtain ⟨g2, o2, rfl, hg2, hin3⟩ := (HTG.out.below HB2.out).at hx
           obtain ⟨kk, a, b, nn, tt, uu, pp⟩ := x
           dsimp only at p1 p2 p3
           skip
           have HI_y : Hid (InV wr g2 (o2 + j * 7) (ndC kk a b nn tt uu pp)) := hin3
           have HM_y := Lib.hid (manyNd kk a b nn tt uu pp)
           have HU_y : Hid (Many Tryz.prog 47 (ndC kk a b nn tt uu pp).size ∧ zN.size = (ndC kk a b nn tt uu pp).size ∧ ∀ v ∈ ndC kk a b nn tt uu pp, v.oneCell' = true) := fitsNd ⟨kk, a, b, nn, tt, uu, pp⟩ zNd
           clear hx hin3 hg2
           go_upto_region 18 with (first | (refine wpList_loadV (by rfl) _ _ (by rfl) _ _ (by rfl) _ (by assumption) (by assumption) ?_) | (refine wpList_storeNew (by rfl) _ _ _ (by rfl) _ _ _ (by rfl) (by rfl) (by assumption) ?_))
           have hry := rowA_new wr 47 (ndC kk a b nn tt uu pp)
           have bn := below_new wr (.cells (ndC kk a b nn tt uu pp) 47)
           have HB3 : Hid (Below wG.heap.size wG (wr.alloc (.cells (ndC kk a b nn tt uu pp) 47))) := below_two HB2.out bn
           have hcx := HCx.out.below (below_two HBG.out HB3.out)
           generalize wr.alloc (.cells (ndC kk a b nn tt uu pp) 47) = wS at *
           obtain ⟨q9, hq9⟩ : ∃ g, g = wr.heap.size := ⟨_, rfl⟩
           rw [← hq9] at hry ⊢
           have z6 := hry.cell (k := 6) (v := .int .i64 pp) rfl
           have z0 := hry.cell (k := 0) (v := .int .i64 kk) rfl
           have z3 := hry.cell (k := 3) (v := .int .i64 nn) rfl
           have zc := hcx.cell (k := 3) (v := .int .i64 (px : Int)) rfl
           clear hq9 bn hry hcx HI_y HM_y HU_y HB2 y6
           by_cases h8 : kk = 8
           · subst h8
             obtain ⟨r1, r2⟩ := p3 rfl
             clear p3
             go_wp2
             go_roundw
             case rel => exact ⟨j + 1, by go_num, hjl, HB3⟩
             case measure => simp [intOf]; omega
           · have e8 : (kk == 8) = false := by rw [beq_eq_false_iff_ne]; exact h8
             clear p3 h8
             go_wp2
             go_roundw
             case rel => exact ⟨j + 1, by go_num, hjl, HB3⟩
             case measure => simp [intOf]; omega
         · skip
           obtain rfl : q1 = j := by omega
           have HBn : Hid (Below wL.heap.size wL wr) := below_two HBG.out HB2.out
           clear HB2
           go_wp2
           go_roundw
           case rel => exact ⟨k + 1, by go_num, by rw [HNk.out, ← HQ1.out]; go_num, hlt, HBn⟩
           case measure => simp [intOf]; omega
      · skip
        obtain rfl : n_a = k := by omega
        have hall : ndsD (ds.take n_a) = ndsD ds := by rw [HN.out, List.take_length]
        rw [hall]
        obtain ⟨m9, hm9⟩ : ∃ m, ndsD ds = m := ⟨_, rfl⟩
        have hm9l := HP3b.out
        rw [hm9] at hm9l ⊢
        have h_da := HA.out.below HB.out
        have h_rc := HCx.out.below HB.out
        have bw := below_two HBw.out HB.out
        clear hall hm9 HB HA HCx HBw HFx HP2 HP3b
        go_wp2_with fail
        refine (pMost_c wr).mono ?_
        rintro e w1 ⟨rfl, bn⟩
        replace h_da := h_da.below bn
        replace h_rc := h_rc.below bn
        replace bw := below_two bw bn
        clear bn
        go_wp2_with fail
        refine (pScript_c s_s (by omega) (4000) (60) (2000) (64) w1 (HT0.out.below bw) (ds) (0) (0) (by rw [cutL_most]; exact HP5.out)).mono ?_
        rintro e w2 ⟨A_b, n_b, c_b, rfl, h_db, bn⟩
        replace h_da := h_da.below bn
        replace h_rc := h_rc.below bn
        replace bw := below_two bw bn
        clear bn
        have HU_g := Lib.hid (fitsF (0) (0))
        have h_rg := rowA_new w2 29 (fltC (0) (0))
        have bn := below_new w2 (.cells (fltC (0) (0)) 29)
        replace h_da := h_da.below bn
        replace h_rc := h_rc.below bn
        replace h_db := h_db.below bn
        replace bw := below_two bw bn
        clear bn
        have k0_g := h_rg.cell (k := 0) (v := .int .i64 (0)) rfl
        have v2 := h_rc.cell (k := 2) (v := .int .i64 (nx : Int)) rfl
        have v0 := h_rc.cell (k := 0) (v := .int .i64 (tx : Int)) rfl
        go_wp2_with (refine wpList_storeNew (by rfl) _ _ _ (by rfl) _ _ _ (by rfl) (by rfl) (by assumption) ?_)
        clear k0_g v2 v0
        generalize w2.alloc (.cells (fltC (0) (0)) 29) = w3 at *
        obtain ⟨q_g, eg⟩ : ∃ g, g = w2.heap.size := ⟨_, rfl⟩
        rw [← eg] at h_rg ⊢
        clear eg
        refine (kScript_c h_da h_db true (eqDs_refl ds)).mono ?_
        rintro e w4 ⟨rfl, bn⟩
        replace h_da := h_da.below bn
        replace h_rc := h_rc.below bn
        replace h_db := h_db.below bn
        replace h_rg := h_rg.below bn
        replace bw := below_two bw bn
        clear bn
        go_wp2_with fail
        refine (wakes_any w4 (Lib.hid (HT0.out.below bw))).mono ?_
        rintro e w5 ⟨rfl, bn⟩
        replace h_da := h_da.below bn
        replace h_rc := h_rc.below bn
        replace h_db := h_db.below bn
        replace h_rg := h_rg.below bn
        replace bw := below_two bw bn
        clear bn
        go_wp2
        go_ret
        exact ⟨rfl, bw⟩
   · skip
     obtain ⟨rfl, r1, r2⟩ := scrV_bad HFit.out HBy.out HV.out hE
     rw [HLs.out] at r2
     have hna : n_a = 0 := h_da.len
     subst hna
     have e0 : (E == 0) = false := by rw [beq_eq_false_iff_ne]; exact hE
     have e02 : (E != 0) = true := by rw [bne_iff_ne]; exact hE
     have k0_f := h_rf.cell (k := 0) (v := .int .i64 (E)) rfl
     have k1_f := h_rf.cell (k := 1) (v := .int .i64 (Pp)) rfl
     go_wp2_with (refine wpList_storeNew (by rfl) _ _ _ (by rfl) _ _ _ (by rfl) (by rfl) (by assumption) ?_)
     clear k0_f k1_f
     generalize w1.alloc (.cells (fltC (E) (Pp)) 29) = w2 at *
     obtain ⟨q_f, eg⟩ : ∃ g, g = w1.heap.size := ⟨_, rfl⟩
     rw [← eg] at h_rf ⊢
     clear eg
     refine (wakes_any w2 (Lib.hid (HT0.out.below bw))).mono ?_
     rintro e w3 ⟨rfl, bn⟩
     replace h_rl := h_rl.below bn
     replace h_da := h_da.below bn
     replace h_rf := h_rf.below bn
     replace bw := below_two bw bn
     clear bn
     go_wp2
     go_ret
     exact ⟨rfl, bw⟩
theorem tab_of {W : World} (h : laidMet Tryz.prog Rows.parseMayRow.laid W) : PTab W := by
 refine ⟨⟨?_, ?_⟩, ?_, ?_, ?_⟩
 · first | exact kinds_tab (laidMet_drop 0 h) (by decide +kernel) | exact kinds_tab (laidMet_drop 1 h) (by decide +kernel) | exact kinds_tab (laidMet_drop 2 h) (by decide +kernel) | exact kinds_tab (laidMet_drop 3 h) (by decide +kernel) | exact kinds_tab (laidMet_drop 4 h) (by decide +kernel) | exact kinds_tab (laidMet_drop 5 h) (by decide +kernel) | exact kinds_tab (laidMet_drop 6 h) (by decide +kernel) | exact kinds_tab (laidMet_drop 7 h) (by decide +kernel) | exact kinds_tab (laidMet_drop 8 h) (by decide +kernel) | exact kinds_tab (laidMet_drop 9 h) (by decide +kernel) | exact kinds_tab (laidMet_drop 10 h) (by decide +kernel) | exact kinds_tab (laidMet_drop 11 h) (by decide +kernel) | exact kinds_tab (laidMet_drop 12 h) (by decide +kernel) | exact kinds_tab (laidMet_drop 13 h) (by decide +kernel)
 · first | exact lkinds_tab (laidMet_drop 0 h) (by decide +kernel) | exact lkinds_tab (laidMet_drop 1 h) (by decide +kernel) | exact lkinds_tab (laidMet_drop 2 h) (by decide +kernel) | exact lkinds_tab (laidMet_drop 3 h) (by decide +kernel) | exact lkinds_tab (laidMet_drop 4 h) (by decide +kernel) | exact lkinds_tab (laidMet_drop 5 h) (by decide +kernel) | exact lkinds_tab (laidMet_drop 6 h) (by decide +kernel) | exact lkinds_tab (laidMet_drop 7 h) (by decide +kernel) | exact lkinds_tab (laidMet_drop 8 h) (by decide +kernel) | exact lkinds_tab (laidMet_drop 9 h) (by decide +kernel) | exact lkinds_tab (laidMet_drop 10 h) (by decide +kernel) | exact lkinds_tab (laidMet_drop 11 h) (by decide +kernel) | exact lkinds_tab (laidMet_drop 12 h) (by decide +kernel) | exact lkinds_tab (laidMet_drop 13 h) (by decide +kernel)
 · first | exact words_tab (laidMet_drop 0 h) (by decide +kernel) | exact words_tab (laidMet_drop 1 h) (by decide +kernel) | exact words_tab (laidMet_drop 2 h) (by decide +kernel) | exact words_tab (laidMet_drop 3 h) (by decide +kernel) | exact words_tab (laidMet_drop 4 h) (by decide +kernel) | exact words_tab (laidMet_drop 5 h) (by decide +kernel) | exact words_tab (laidMet_drop 6 h) (by decide +kernel) | exact words_tab (laidMet_drop 7 h) (by decide +kernel) | exact words_tab (laidMet_drop 8 h) (by decide +kernel) | exact words_tab (laidMet_drop 9 h) (by decide +kernel) | exact words_tab (laidMet_drop 10 h) (by decide +kernel) | exact words_tab (laidMet_drop 11 h) (by decide +kernel) | exact words_tab (laidMet_drop 12 h) (by decide +kernel) | exact words_tab (laidMet_drop 13 h) (by decide +kernel)
 · first | exact errs_tab (laidMet_drop 0 h) (by decide +kernel) | exact errs_tab (laidMet_drop 1 h) (by decide +kernel) | exact errs_tab (laidMet_drop 2 h) (by decide +kernel) | exact errs_tab (laidMet_drop 3 h) (by decide +kernel) | exact errs_tab (laidMet_drop 4 h) (by decide +kernel) | exact errs_tab (laidMet_drop 5 h) (by decide +kernel) | exact errs_tab (laidMet_drop 6 h) (by decide +kernel) | exact errs_tab (laidMet_drop 7 h) (by decide +kernel) | exact errs_tab (laidMet_drop 8 h) (by decide +kernel) | exact errs_tab (laidMet_drop 9 h) (by decide +kernel) | exact errs_tab (laidMet_drop 10 h) (by decide +kernel) | exact errs_tab (laidMet_drop 11 h) (by decide +kernel) | exact errs_tab (laidMet_drop 12 h) (by decide +kernel) | exact errs_tab (laidMet_drop 13 h) (by decide +kernel)
 · first | exact errr_tab (laidMet_drop 0 h) (by decide +kernel) | exact errr_tab (laidMet_drop 1 h) (by decide +kernel) | exact errr_tab (laidMet_drop 2 h) (by decide +kernel) | exact errr_tab (laidMet_drop 3 h) (by decide +kernel) | exact errr_tab (laidMet_drop 4 h) (by decide +kernel) | exact errr_tab (laidMet_drop 5 h) (by decide +kernel) | exact errr_tab (laidMet_drop 6 h) (by decide +kernel) | exact errr_tab (laidMet_drop 7 h) (by decide +kernel) | exact errr_tab (laidMet_drop 8 h) (by decide +kernel) | exact errr_tab (laidMet_drop 9 h) (by decide +kernel) | exact errr_tab (laidMet_drop 10 h) (by decide +kernel) | exact errr_tab (laidMet_drop 11 h) (by decide +kernel) | exact errr_tab (laidMet_drop 12 h) (by decide +kernel) | exact errr_tab (laidMet_drop 13 h) (by decide +kernel)
set_option maxRecDepth 100000 in
theorem lifted (os : Os) (started : os.Started) (H : Type) (enc : TypeId × Value → H) :
 ReturnsInHanded {} Tryz.checked os 4 .any (fun w args => (Rows.parseMaySpec.pre enc Tryz.prog Tryz.f4 [] false w args ∧ laidMetH Tryz.prog Rows.parseMayRow.laid w) ∧ sizedMet enc Tryz.prog Tryz.f4 (OpenSpec.ofChange Rows.parseMaySpec) false w args)
  (Rows.parseMaySpec.post enc Tryz.prog Tryz.f4 false true false false) := by
 refine returnsInHanded_of_change_and (C := Tryz.checked) (X := fun w _ => laidMetH Tryz.prog Rows.parseMayRow.laid w) (fun _ _ _ hh h => h.of_heap hh) own started (by kernel_rfl) Tryz.func4
  (ChangeSpec.witness_shaped (enc := enc) (C := Tryz.checked) (os := os) (X := fun w _ => laidMetH Tryz.prog Rows.parseMayRow.laid w) false (World.laidAll Tryz.prog os Rows.parseMayRow.laid) #[.string ⟨#[]⟩, .agg #[.int .i64 0, .int .i64 0, .int .i64 0, .int .i64 0]] 8 (World.laidAll_os _ _ _)
    (World.shaped_of_ZipB (by kernel_rfl) (by kernel_rfl)) (by kernel_rfl) (by kernel_rfl) (by kernel_rfl)
    (by rw [MakeChecks.laidMetH_plain _ _ _ (by kernel_rfl)]; exact laidMet_laidAll _ (by kernel_rfl) (by kernel_rfl))) ?_
 intro W base args ds gs before hval0 hW _ _ hL _
 have hval : ∀ (j : Nat) t v, Tryz.f4.params[j]? = some t → args[j]? = some v → Value.okWide Tryz.prog W .any base t v := hval0
 have hW' := hW
 obtain ⟨p, q, hA0, hV, rfl, hfz, hnd⟩ := hW
 have hA : DataW.TrodAll enc Tryz.prog W 0 (fun _ => true) true Tryz.f4.params.toList args.toList ds p := hA0
 rw [Tryz.params4] at hA hval
 obtain ⟨v0, vs0, d0, ds0, p0, q0, hargs, rfl, rfl, h0, r0⟩ := trodAll_cons hA
 obtain ⟨v1, vs1, d1, ds1, p1, q1, rfl, rfl, rfl, h1, r1⟩ := trodAll_cons r0
 obtain ⟨rfl, rfl, rfl⟩ := trodAll_nil r1
 obtain rfl : args = #[v0, v1] := by cases args; simp_all
 obtain ⟨rfl, rfl⟩ := trodVars_none hV
 obtain ⟨a0, rfl, rfl, rfl, w0⟩ := Go.ChangeMaps.open_string Tryz.underlying9 (hval 0 9 v0 rfl rfl) h0
 obtain ⟨a1, b1, c1, e1, rfl, w1, y1, u1, t1⟩ := open_lim (hval 1 23 v1 rfl rfl) h1
 clear hA0 hval0
 simp only [List.append_nil] at hW'
 rw [MakeChecks.laidMetH_plain _ _ _ (by kernel_rfl)] at hL
 refine (walk a0 a1 b1 c1 e1 W w0 w1 y1 u1 t1 (tab_of hL)).mono fun e W' ⟨he, bel⟩ => ?_
 subst he
 exact ⟨_, rfl, _, _, _, [], _, [], hW', trodAll_mk1 (shut_bool Tryz.underlying4 _), (trodAll_cons_mk (Go.ChangeMaps.shut_string Tryz.underlying9 w0) (trodAll_cons_mk (Below.trod laidOut (by kernel_rfl) (of_decide_eq_true (by kernel_rfl)) h1 bel (places_lt h1)) trodAll_mk0)), rfl, bel.frame _, fun h => by cases h⟩
theorem over : Rows.parseMayRow.holds Tryz.pinned (OpenSpec.ofChange Rows.parseMaySpec) :=
 OpenClaim.holds_of_wide 4 Tryz.f4 rfl rfl rfl rfl rfl rfl rfl ⟨rfl, rfl, rfl, rfl, rfl⟩ rfl rfl rfl rfl rfl (by kernel_rfl) Tryz.func4 (by kernel_rfl)
  (of_decide_eq_true (by kernel_rfl)) (by unfold Func.isWrapper; first | (rw [if_pos (by decide +kernel)]; kernel_rfl) | (rw [if_neg (by decide +kernel)]; exact ⟨rfl, rfl⟩))
  (fun os started H enc _ => lifted os started H enc)
theorem proved : Rows.ParseMayCardSaid :=
 Claim7.holds_tied_plain_at .later [] Rows.parseMayCard.laidKinds true Rows.parseMayCard.stood.harness Rows.parseMayCard.stood.looks
  over (fun _ h => by cases h) (by kernel_rfl) (fun _ h => by cases h) parseMay_row_tie rfl ⟨rfl, rfl⟩ (by kernel_rfl) rfl
  (fun f fn hf hfn => by
    obtain rfl : f = 4 := Option.some.inj ((show Tryz.prog.funcNamed Rows.parseMayRow.func = some 4 by kernel_rfl).symm.trans hf) |>.symm
    obtain rfl : fn = Tryz.f4 := (Option.some.inj (Tryz.func4.symm.trans hfn)).symm
    exact ⟨by kernel_rfl, fun j t ht => by
     have hm : t ∈ Tryz.f4.params.toList := by simpa using Array.mem_of_getElem? ht
     have hall : (Tryz.f4.params.toList.all fun u => !Tryz.prog.wantsStandIn u) = true := by kernel_rfl
     exact (show Tryz.prog.wantsStandIn t = false by simpa using List.all_eq_true.1 hall t hm)⟩)
  (by kernel_rfl)
end Go.Proofs.YtheaepceghnkpaaGreatDoor.lawParseMay
