/- Part 5 of the texts that the statements of this seat lean on: mathematics, and what functions answer, as contracts over memory; each part says its own conditions. -/
import Derived.Test.YtheaepceghnkpaaDoorM4
/- What package keep's Decl and Script answer, as contracts over memory. Conditions: what is handed in reads in memory. -/
namespace Go.Proofs.YtheaepceghnkpaaDoor
open Go.RowKit Limb
set_option linter.unusedVariables false
set_option maxHeartbeats 4000000 in
set_option maxRecDepth 100000 in
theorem kDecl_c {w : World} {k k2 pl pl2 at1 at2 : Int} {nm nm2 ot ot2 nu nu2 va va2 un un2 : ByteArray} {A B : Option Addr} {n c m d : Nat} {ts us : List Nd} (h1 : TreR w A n c ts) (h2 : TreR w B m d us) (v : Bool) (hv : (decide (k = k2) && decide (nm = nm2) && decide (ot = ot2) && decide (nu = nu2) && decide (va = va2) && decide (un = un2) && eqT ts us && decide (pl = pl2) && decide (at1 = at2)) = v) :
 Calls Tryd.prog 19 #[.agg (dcC k nm ot nu va un A n c pl at1), .agg (dcC k2 nm2 ot2 nu2 va2 un2 B m d pl2 at2)] w fun e w' => e = .returned (.bool v) ∧ Below w.heap.size w w' := by
 obtain ⟨tb, htb⟩ : ∃ b, eqT ts us = b := ⟨_, rfl⟩
 have HTb := Lib.hid htb
 rw [htb] at hv
 clear htb
 have bw := bel_refl w
 have h_rx := rowA_new w 49 (dcC k nm ot nu va un A n c pl at1)
 have bn := below_new w (.cells (dcC k nm ot nu va un A n c pl at1) 49)
 replace h1 := h1.below bn
 replace h2 := h2.below bn
 replace bw := below_two bw bn
 clear bn
 have h_ry := rowA_new (w.alloc (.cells (dcC k nm ot nu va un A n c pl at1) 49)) 49 (dcC k2 nm2 ot2 nu2 va2 un2 B m d pl2 at2)
 have bn := below_new (w.alloc (.cells (dcC k nm ot nu va un A n c pl at1) 49)) (.cells (dcC k2 nm2 ot2 nu2 va2 un2 B m d pl2 at2) 49)
 replace h1 := h1.below bn
 replace h2 := h2.below bn
 replace h_rx := h_rx.below bn
 replace bw := below_two bw bn
 clear bn
 simp only [World.size_alloc] at h_ry
 go_enter Tryd.func19, Tryd.ntmps19
 go_upto_region 1 with fail
 generalize (w.alloc (.cells (dcC k nm ot nu va un A n c pl at1) 49)).alloc (.cells (dcC k2 nm2 ot2 nu2 va2 un2 B m d pl2 at2) 49) = w1 at *
 obtain ⟨q_y, eg⟩ : ∃ g, g = w.heap.size + 1 := ⟨_, rfl⟩
 have hqy : Hid (w.heap.size ≤ q_y) := by show _ ≤ _; omega
 rw [← eg] at h_ry ⊢
 have e_y := eg
 clear eg
 obtain ⟨q_x, eg⟩ : ∃ g, g = w.heap.size := ⟨_, rfl⟩
 have hqx : Hid (w.heap.size ≤ q_x) := by show _ ≤ _; omega
 rw [← eg] at h_rx ⊢
 have e_x := eg
 clear eg
 have hne_x_y : Hid (q_x ≠ q_y) := by show _ ≠ _; omega
 clear e_x e_y
 have HX := Lib.hid h_rx
 have HY := Lib.hid h_ry
 have H1 := Lib.hid h1
 have H2 := Lib.hid h2
 have HB := Lib.hid bw
 clear h1 h2 bw hqx hqy hne_x_y
 have x0 := h_rx.cell (k := 0) (v := .int .i64 k) rfl
 have x1 := h_rx.cell (k := 1) (v := .string nm) rfl
 have x2 := h_rx.cell (k := 2) (v := .string ot) rfl
 have x3 := h_rx.cell (k := 3) (v := .string nu) rfl
 have x4 := h_rx.cell (k := 4) (v := .string va) rfl
 have x5 := h_rx.cell (k := 5) (v := .string un) rfl
 have x6 := h_rx.cell (k := 6) (v := .slice A n c) rfl
 have x7 := h_rx.cell (k := 7) (v := .int .i64 pl) rfl
 have x8 := h_rx.cell (k := 8) (v := .int .i64 at1) rfl
 have y0 := h_ry.cell (k := 0) (v := .int .i64 k2) rfl
 have y1 := h_ry.cell (k := 1) (v := .string nm2) rfl
 have y2 := h_ry.cell (k := 2) (v := .string ot2) rfl
 have y3 := h_ry.cell (k := 3) (v := .string nu2) rfl
 have y4 := h_ry.cell (k := 4) (v := .string va2) rfl
 have y5 := h_ry.cell (k := 5) (v := .string un2) rfl
 have y6 := h_ry.cell (k := 6) (v := .slice B m d) rfl
 have y7 := h_ry.cell (k := 7) (v := .int .i64 pl2) rfl
 have y8 := h_ry.cell (k := 8) (v := .int .i64 at2) rfl
 clear h_rx h_ry
 by_cases h0 : k = k2
 · subst h0
   by_cases h1 : nm = nm2
   · subst h1
     by_cases h2 : ot = ot2
     · subst h2
       by_cases h3 : nu = nu2
       · subst h3
         by_cases h4 : va = va2
         · subst h4
           by_cases h5 : un = un2
           · subst h5
             cases tb with
             | false =>
              obtain rfl : v = false := by rw [← hv]; simp
              clear hv
              go_wp2_with (go_at_call 34; (with_reducible refine (kTree_c H1.out H2.out _ HTb.out).mono ?_); rintro e wx ⟨rfl, bn⟩; have HB2 := Lib.hid (below_two HB.out bn); have hX := HX.out.below bn; have hY := HY.out.below bn; have x7 := hX.cell (k := 7) (v := .int .i64 pl) rfl; have x8 := hX.cell (k := 8) (v := .int .i64 at1) rfl; have y7 := hY.cell (k := 7) (v := .int .i64 pl2) rfl; have y8 := hY.cell (k := 8) (v := .int .i64 at2) rfl; clear hX hY bn)
              go_ret
              exact ⟨rfl, HB2.out⟩
             | true =>
              by_cases h7 : pl = pl2
              · subst h7
                by_cases h8 : at1 = at2
                · subst h8
                  obtain rfl : v = true := by rw [← hv]; simp
                  clear hv
                  go_wp2_with (go_at_call 34; (with_reducible refine (kTree_c H1.out H2.out _ HTb.out).mono ?_); rintro e wx ⟨rfl, bn⟩; have HB2 := Lib.hid (below_two HB.out bn); have hX := HX.out.below bn; have hY := HY.out.below bn; have x7 := hX.cell (k := 7) (v := .int .i64 pl) rfl; have x8 := hX.cell (k := 8) (v := .int .i64 at1) rfl; have y7 := hY.cell (k := 7) (v := .int .i64 pl) rfl; have y8 := hY.cell (k := 8) (v := .int .i64 at1) rfl; clear hX hY bn)
                  go_ret
                  exact ⟨rfl, HB2.out⟩
                · have e8 : (at1 == at2) = false := by rw [beq_eq_false_iff_ne]; exact h8
                  obtain rfl : v = false := by rw [← hv]; simp [h8]
                  clear hv
                  go_wp2_with (go_at_call 34; (with_reducible refine (kTree_c H1.out H2.out _ HTb.out).mono ?_); rintro e wx ⟨rfl, bn⟩; have HB2 := Lib.hid (below_two HB.out bn); have hX := HX.out.below bn; have hY := HY.out.below bn; have x7 := hX.cell (k := 7) (v := .int .i64 pl) rfl; have x8 := hX.cell (k := 8) (v := .int .i64 at1) rfl; have y7 := hY.cell (k := 7) (v := .int .i64 pl) rfl; have y8 := hY.cell (k := 8) (v := .int .i64 at2) rfl; clear hX hY bn)
                  go_ret
                  exact ⟨rfl, HB2.out⟩
              · have e7 : (pl == pl2) = false := by rw [beq_eq_false_iff_ne]; exact h7
                obtain rfl : v = false := by rw [← hv]; simp [h7]
                clear hv
                go_wp2_with (go_at_call 34; (with_reducible refine (kTree_c H1.out H2.out _ HTb.out).mono ?_); rintro e wx ⟨rfl, bn⟩; have HB2 := Lib.hid (below_two HB.out bn); have hX := HX.out.below bn; have hY := HY.out.below bn; have x7 := hX.cell (k := 7) (v := .int .i64 pl) rfl; have x8 := hX.cell (k := 8) (v := .int .i64 at1) rfl; have y7 := hY.cell (k := 7) (v := .int .i64 pl2) rfl; have y8 := hY.cell (k := 8) (v := .int .i64 at2) rfl; clear hX hY bn)
                go_ret
                exact ⟨rfl, HB2.out⟩
           · have e5 : (un.toList == un2.toList) = false := str_ne h5
             obtain rfl : v = false := by rw [← hv]; simp [h5]
             clear hv
             go_wp2_with fail
             go_ret
             exact ⟨rfl, HB.out⟩
         · have e4 : (va.toList == va2.toList) = false := str_ne h4
           obtain rfl : v = false := by rw [← hv]; simp [h4]
           clear hv
           go_wp2_with fail
           go_ret
           exact ⟨rfl, HB.out⟩
       · have e3 : (nu.toList == nu2.toList) = false := str_ne h3
         obtain rfl : v = false := by rw [← hv]; simp [h3]
         clear hv
         go_wp2_with fail
         go_ret
         exact ⟨rfl, HB.out⟩
     · have e2 : (ot.toList == ot2.toList) = false := str_ne h2
       obtain rfl : v = false := by rw [← hv]; simp [h2]
       clear hv
       go_wp2_with fail
       go_ret
       exact ⟨rfl, HB.out⟩
   · have e1 : (nm.toList == nm2.toList) = false := str_ne h1
     obtain rfl : v = false := by rw [← hv]; simp [h1]
     clear hv
     go_wp2_with fail
     go_ret
     exact ⟨rfl, HB.out⟩
 · have e0 : (k == k2) = false := by rw [beq_eq_false_iff_ne]; exact h0
   obtain rfl : v = false := by rw [← hv]; simp [h0]
   clear hv
   go_wp2_with fail
   go_ret
   exact ⟨rfl, HB.out⟩
set_option maxHeartbeats 4000000 in
set_option maxRecDepth 100000 in
theorem kScript_c {w : World} {A B : Option Addr} {n c m0 d : Nat} {ds es : List Dc} (h1 : DcR w A n c ds) (h2 : DcR w B m0 d es) (v : Bool) (hv : eqDs ds es = v) :
 Calls Tryd.prog 9 #[.slice A n c, .slice B m0 d] w fun e w' => e = .returned (.bool v) ∧ Below w.heap.size w w' := by
 have hn := h1.len
 have hn2 := h2.len
 have hc : n ≤ c ∧ c ≤ maxLen := by obtain ⟨_, _, _, a, b, _⟩ := h1; exact ⟨a, b⟩
 have hc2 : m0 ≤ d ∧ d ≤ maxLen := by obtain ⟨_, _, _, a, b, _⟩ := h2; exact ⟨a, b⟩
 obtain ⟨hc, hcm⟩ := hc
 obtain ⟨hc2, hcm2⟩ := hc2
 have H1 := Lib.hid h1
 have H2 := Lib.hid h2
 have HN1 := Lib.hid hn
 have HN2 := Lib.hid hn2
 have HV := Lib.hid hv
 clear h1 h2 hn hn2 hv
 have eq1 : maxLen = 9223372036854775807 := rfl
 by_cases hl : n = m0
 · subst hl
   go_enter Tryd.func9, Tryd.ntmps9
   go_wp2
   go_loopw [5] (fun i wr => ∃ k0 : Nat, i = .int .i64 (k0 : Int) ∧ k0 ≤ n ∧ Hid (eqDs (ds.take k0) (es.take k0) = true) ∧ Hid (Below w.heap.size w wr)) (fun i _ => n - (intOf i).toNat)
   case atStart => exact ⟨0, rfl, Nat.zero_le _, rfl, Below.refl _ _⟩
   case round =>
    obtain ⟨k0, rfl, hk, HP, HB⟩ := hrel
    by_cases hlt : k0 < n
    · skip
      obtain ⟨x, hx⟩ : ∃ x, ds[k0]? = some x := ⟨_, List.getElem?_eq_getElem (by rw [← HN1.out]; exact hlt)⟩
      obtain ⟨y, hy⟩ : ∃ y, es[k0]? = some y := ⟨_, List.getElem?_eq_getElem (by rw [← HN2.out]; exact hlt)⟩
      have HX := Lib.hid hx
      have HY := Lib.hid hy
      obtain ⟨g, og, A1, q1, c1, nm1, ot1, nu1, va1, un1, rfl, hg, hin, ht1, u1, u2, u3, u4, u5⟩ := (H1.out.below HB.out).at2 hx
      obtain ⟨g2, og2, A2, q2, c2, nm2, ot2, nu2, va2, un2, rfl, hg2, hin2, ht2, v1, v2, v3, v4, v5⟩ := (H2.out.below HB.out).at2 hy
      obtain ⟨eq, heq⟩ : ∃ b, eqD x y = b := ⟨_, rfl⟩
      have HEq := Lib.hid heq
      unfold eqD at heq
      rw [u1, u2, u3, u4, u5, v1, v2, v3, v4, v5] at heq
      have HQ := Lib.hid heq
      have HT1 := Lib.hid ht1
      have HT2 := Lib.hid ht2
      have HI_1 : Hid (InV wr g (og + k0 * 9) (dcC x.k nm1 ot1 nu1 va1 un1 A1 q1 c1 x.pl x.at')) := hin
      have HI_2 : Hid (InV wr g2 (og2 + k0 * 9) (dcC y.k nm2 ot2 nu2 va2 un2 A2 q2 c2 y.pl y.at')) := hin2
      have HG1 := Lib.hid hg
      have HG2 := Lib.hid hg2
      have HM_1 := Lib.hid (manyDc x.k nm1 ot1 nu1 va1 un1 A1 q1 c1 x.pl x.at')
      have HM_2 := Lib.hid (manyDc y.k nm2 ot2 nu2 va2 un2 A2 q2 c2 y.pl y.at')
      clear hx hy hin hin2 hg hg2 heq ht1 ht2 u1 u2 u3 u4 u5 v1 v2 v3 v4 v5
      go_wp2
      generalize wr = wS at *
      have g1 : (k0 : Int) < (n : Int) := by omega
      cases eq with
      | false =>
       have HV0 : Hid (v = false) := by show _ = _; rw [← HV.out]; exact eqDs_bad HX.out HY.out HEq.out
       refine region_freed 10 0 8 [17, 18, 19, 20, 21, 22, 23, 24, 25, 26] ?aF1 (fun wx => Below wS.heap.size wS wx) (fun k vv wx => match k with
        | 0 => vv = .slice (some ⟨g, og, none⟩) n c
        | 1 => vv = .int .i64 (k0 : Int)
        | 2 => vv = .pointer (some ⟨g, og + k0 * 9, none⟩)
        | 3 => vv = .agg (dcC x.k nm1 ot1 nu1 va1 un1 A1 q1 c1 x.pl x.at')
        | 4 => vv = .slice (some ⟨g2, og2, none⟩) n d
        | 5 => vv = .int .i64 (k0 : Int)
        | 6 => vv = .pointer (some ⟨g2, og2 + k0 * 9, none⟩)
        | 7 => vv = .agg (dcC y.k nm2 ot2 nu2 va2 un2 A2 q2 c2 y.pl y.at')
        | 8 => vv = .bool false
        | _ => vv = .bool true)
        (fun k => false) (by kernel_rfl) ?haF1 rfl (by kernel_rfl) (by kernel_rfl) (fun _ _ _ _ _ h => h) ?hSb1 ?hPb1 ?hS1 ?hop1 ?hfin1
       case haF1 =>
        intro vals
        simp only [fillAll, List.getElem?_cons_zero, List.getElem?_cons_succ, Act.put, List.setIfInBounds_toArray, List.set_cons_zero, List.set_cons_succ]
        exact rfl
       case hSb1 => exact fun wx w2 hb hS => below_two hS hb
       case hPb1 =>
        intro k v wa wb hb h
        match k, h with
        | 0, h => exact h
        | 1, h => exact h
        | 2, h => exact h
        | 3, h => exact h
        | 4, h => exact h
        | 5, h => exact h
        | 6, h => exact h
        | 7, h => exact h
        | 8, h => exact h
        | _ + 9, h => exact h
       case hS1 => exact (Below.refl _ _).drew
       case hop1 =>
        refine .cons (k := 0) (.plain rfl ?_) (.cons (k := 1) (.plain rfl ?_) (.cons (k := 2) (.plain rfl ?_) (.cons (k := 3) (.plain rfl ?_) (.cons (k := 4) (.plain rfl ?_) (.cons (k := 5) (.plain rfl ?_) (.cons (k := 6) (.plain rfl ?_) (.cons (k := 7) (.plain rfl ?_) (.cons (k := 8) (.plain rfl ?_) (.cons (k := 9) (.plain rfl ?_) (.nil))))))))))
        all_goals intro vals wr hS hd KC hK
        all_goals (show Oper.wp _ _ _ _ _ _; dsimp only)
        · go_simp
          refine hK _ _ rfl (Below.refl _ _) (by first | rfl | simp) (fun h => by cases h)
        · go_simp
          refine hK _ _ rfl (Below.refl _ _) (by first | rfl | simp) (fun h => by cases h)
        · have d0 : vals 0 = _ := hd 0 (by decide +kernel)
          have d1 : vals 1 = _ := hd 1 (by decide +kernel)
          rw [d0, d1]
          go_simp
          refine hK _ _ rfl (Below.refl _ _) (by first | rfl | simp) (fun h => by cases h)
        · have d2 : vals 2 = _ := hd 2 (by decide +kernel)
          rw [d2]
          refine wp_loadV 49 _ rfl _ _ rfl (dcC x.k nm1 ot1 nu1 va1 un1 A1 q1 c1 x.pl x.at') (Lib.hid HI_1.out.below HG1.out hS) (Lib.hid HM_1.out) ?_
          refine hK _ _ rfl (Below.refl _ _) (by first | rfl | simp) (fun h => by cases h)
        · go_simp
          refine hK _ _ rfl (Below.refl _ _) (by first | rfl | simp) (fun h => by cases h)
        · go_simp
          refine hK _ _ rfl (Below.refl _ _) (by first | rfl | simp) (fun h => by cases h)
        · have d4 : vals 4 = _ := hd 4 (by decide +kernel)
          have d5 : vals 5 = _ := hd 5 (by decide +kernel)
          rw [d4, d5]
          go_simp
          refine hK _ _ rfl (Below.refl _ _) (by first | rfl | simp) (fun h => by cases h)
        · have d6 : vals 6 = _ := hd 6 (by decide +kernel)
          rw [d6]
          refine wp_loadV 49 _ rfl _ _ rfl (dcC y.k nm2 ot2 nu2 va2 un2 A2 q2 c2 y.pl y.at') (Lib.hid HI_2.out.below HG2.out hS) (Lib.hid HM_2.out) ?_
          refine hK _ _ rfl (Below.refl _ _) (by first | rfl | simp) (fun h => by cases h)
        · have d3 : vals 3 = _ := hd 3 (by decide +kernel)
          have d7 : vals 7 = _ := hd 7 (by decide +kernel)
          rw [d3, d7]
          go_simp
          go_at_call 19
          with_reducible refine (kDecl_c (HT1.out.below hS) (HT2.out.below hS) false HQ.out).mono ?_
          rintro e w2 ⟨rfl, bn_r⟩
          refine hK _ _ rfl bn_r rfl (fun h => by cases h)
        · have d8 : vals 8 = _ := hd 8 (by decide +kernel)
          rw [d8]
          go_simp
          refine hK _ _ rfl (Below.refl _ _) (by first | rfl | simp) (fun h => by cases h)
       case hfin1 =>
        intro vals wr hS hP hne
        have ez_9 : vals 9 = _ := hP 9 (by decide)
        try dsimp only
        rw [ez_9]
        refine wpAny_done (by kernel_rfl) ?_ _
        have HB2 := Lib.hid (below_two HB.out hS)
        clear hS hP hne
        go_wp2
        go_ret
        exact ⟨by rw [HV0.out]; rfl, HB2.out⟩
      | true =>
       have HP2 : Hid (eqDs (ds.take (k0 + 1)) (es.take (k0 + 1)) = true) := eqDs_take HX.out HY.out HP.out HEq.out
       clear HP
       refine region_freed 10 0 8 [17, 18, 19, 20, 21, 22, 23, 24, 25, 26] ?aF2 (fun wx => Below wS.heap.size wS wx) (fun k vv wx => match k with
        | 0 => vv = .slice (some ⟨g, og, none⟩) n c
        | 1 => vv = .int .i64 (k0 : Int)
        | 2 => vv = .pointer (some ⟨g, og + k0 * 9, none⟩)
        | 3 => vv = .agg (dcC x.k nm1 ot1 nu1 va1 un1 A1 q1 c1 x.pl x.at')
        | 4 => vv = .slice (some ⟨g2, og2, none⟩) n d
        | 5 => vv = .int .i64 (k0 : Int)
        | 6 => vv = .pointer (some ⟨g2, og2 + k0 * 9, none⟩)
        | 7 => vv = .agg (dcC y.k nm2 ot2 nu2 va2 un2 A2 q2 c2 y.pl y.at')
        | 8 => vv = .bool true
        | _ => vv = .bool false)
        (fun k => false) (by kernel_rfl) ?haF2 rfl (by kernel_rfl) (by kernel_rfl) (fun _ _ _ _ _ h => h) ?hSb2 ?hPb2 ?hS2 ?hop2 ?hfin2
       case haF2 =>
        intro vals
        simp only [fillAll, List.getElem?_cons_zero, List.getElem?_cons_succ, Act.put, List.setIfInBounds_toArray, List.set_cons_zero, List.set_cons_succ]
        exact rfl
       case hSb2 => exact fun wx w2 hb hS => below_two hS hb
       case hPb2 =>
        intro k v wa wb hb h
        match k, h with
        | 0, h => exact h
        | 1, h => exact h
        | 2, h => exact h
        | 3, h => exact h
        | 4, h => exact h
        | 5, h => exact h
        | 6, h => exact h
        | 7, h => exact h
        | 8, h => exact h
        | _ + 9, h => exact h
       case hS2 => exact (Below.refl _ _).drew
       case hop2 =>
        refine .cons (k := 0) (.plain rfl ?_) (.cons (k := 1) (.plain rfl ?_) (.cons (k := 2) (.plain rfl ?_) (.cons (k := 3) (.plain rfl ?_) (.cons (k := 4) (.plain rfl ?_) (.cons (k := 5) (.plain rfl ?_) (.cons (k := 6) (.plain rfl ?_) (.cons (k := 7) (.plain rfl ?_) (.cons (k := 8) (.plain rfl ?_) (.cons (k := 9) (.plain rfl ?_) (.nil))))))))))
        all_goals intro vals wr hS hd KC hK
        all_goals (show Oper.wp _ _ _ _ _ _; dsimp only)
        · go_simp
          refine hK _ _ rfl (Below.refl _ _) (by first | rfl | simp) (fun h => by cases h)
        · go_simp
          refine hK _ _ rfl (Below.refl _ _) (by first | rfl | simp) (fun h => by cases h)
        · have d0 : vals 0 = _ := hd 0 (by decide +kernel)
          have d1 : vals 1 = _ := hd 1 (by decide +kernel)
          rw [d0, d1]
          go_simp
          refine hK _ _ rfl (Below.refl _ _) (by first | rfl | simp) (fun h => by cases h)
        · have d2 : vals 2 = _ := hd 2 (by decide +kernel)
          rw [d2]
          refine wp_loadV 49 _ rfl _ _ rfl (dcC x.k nm1 ot1 nu1 va1 un1 A1 q1 c1 x.pl x.at') (Lib.hid HI_1.out.below HG1.out hS) (Lib.hid HM_1.out) ?_
          refine hK _ _ rfl (Below.refl _ _) (by first | rfl | simp) (fun h => by cases h)
        · go_simp
          refine hK _ _ rfl (Below.refl _ _) (by first | rfl | simp) (fun h => by cases h)
        · go_simp
          refine hK _ _ rfl (Below.refl _ _) (by first | rfl | simp) (fun h => by cases h)
        · have d4 : vals 4 = _ := hd 4 (by decide +kernel)
          have d5 : vals 5 = _ := hd 5 (by decide +kernel)
          rw [d4, d5]
          go_simp
          refine hK _ _ rfl (Below.refl _ _) (by first | rfl | simp) (fun h => by cases h)
        · have d6 : vals 6 = _ := hd 6 (by decide +kernel)
          rw [d6]
          refine wp_loadV 49 _ rfl _ _ rfl (dcC y.k nm2 ot2 nu2 va2 un2 A2 q2 c2 y.pl y.at') (Lib.hid HI_2.out.below HG2.out hS) (Lib.hid HM_2.out) ?_
          refine hK _ _ rfl (Below.refl _ _) (by first | rfl | simp) (fun h => by cases h)
        · have d3 : vals 3 = _ := hd 3 (by decide +kernel)
          have d7 : vals 7 = _ := hd 7 (by decide +kernel)
          rw [d3, d7]
          go_simp
          go_at_call 19
          with_reducible refine (kDecl_c (HT1.out.below hS) (HT2.out.below hS) true HQ.out).mono ?_
          rintro e w2 ⟨rfl, bn_r⟩
          refine hK _ _ rfl bn_r rfl (fun h => by cases h)
        · have d8 : vals 8 = _ := hd 8 (by decide +kernel)
          rw [d8]
          go_simp
          refine hK _ _ rfl (Below.refl _ _) (by first | rfl | simp) (fun h => by cases h)
       case hfin2 =>
        intro vals wr hS hP hne
        have ez_9 : vals 9 = _ := hP 9 (by decide)
        try dsimp only
        rw [ez_9]
        refine wpAny_done (by kernel_rfl) ?_ _
        have HB2 := Lib.hid (below_two HB.out hS)
        clear hS hP hne
        go_wp2
        go_roundw
        case rel => exact ⟨k0 + 1, by go_num, hlt, HP2, HB2⟩
        case measure => simp [intOf]; omega
    · obtain rfl : n = k0 := by omega
      have HV1 : Hid (v = true) := by
       show _ = _
       rw [← HV.out]
       have h := HP.out
       rw [List.take_of_length_le (by rw [← HN1.out]; exact Nat.le_refl _), List.take_of_length_le (by rw [← HN2.out]; exact Nat.le_refl _)] at h
       exact h
      go_wp2
      go_ret
      exact ⟨by rw [HV1.out]; rfl, HB.out⟩
 · have HV0 : Hid (v = false) := by
    show _ = _
    rw [← HV.out]
    exact eqDs_no (by rw [← HN1.out, ← HN2.out]; exact hl)
   have e0 : ((n : Int) != (m0 : Int)) = true := by rw [bne_iff_ne]; omega
   go_enter Tryd.func9, Tryd.ntmps9
   go_wp2
   go_ret
   exact ⟨by rw [HV0.out]; rfl, Below.refl _ _⟩
end Go.Proofs.YtheaepceghnkpaaDoor

/- Rows of a call's own beside rows of another type. No condition. -/
namespace Go.Proofs.YtheaepceghnkpaaDoor
open Go.RowKit Limb
set_option linter.unusedVariables false
theorem OwnR.differ {w : World} {B sz n c g : Nat} {e T : TypeId} {A : Option Addr} {xs : List Value} {V : Array Value} (h : OwnR w B e sz A n c xs) (hr : RowA w g T V) (ht : T ≠ e) : Value.ownBlock (.slice A n c) ≠ some g := by
 rcases h.2 with ⟨hv, h0⟩ | ⟨g2, cap, cur, hv, hB, hg, _⟩
 · rw [hv]; intro h; cases h
 · rw [hv]
   intro e2
   have e3 : g2 = g := by injection e2
   subst e3
   unfold RowA at hr
   have h1 := hg.symm.trans hr
   injection h1 with h1
   injection h1 with _ h2 _
   exact ht h2.symm
theorem OwnR.over {w w' : World} {B sz n c : Nat} {e : TypeId} {A : Option Addr} {xs : List Value} {r : Option Nat} (h : OwnR w B e sz A n c xs) (hg : w.grownBy w' r) (hr : ∀ q, r = some q → Value.ownBlock (.slice A n c) ≠ some q) : OwnR w' B e sz A n c xs := by
 refine ⟨h.1, ?_⟩
 rcases h.2 with h1 | ⟨g, cap, cur, hv, hB, hgc, hrest⟩
 · exact .inl h1
 · refine .inr ⟨g, cap, cur, hv, hB, ?_, hrest⟩
   have hlt : g < w.heap.size := by
    rcases Nat.lt_or_ge g w.heap.size with h | h
    · exact h
    · rw [Array.getElem?_eq_none h] at hgc; cases hgc
   rw [← hgc]
   refine hg.block g hlt fun e2 => hr g e2.symm ?_
   rw [hv]; rfl
def OwnX (w : World) (A : Option Addr) (n c : Nat) (ts : List Nd) : Prop := ∃ B, OwnT w B A n c ts
theorem OwnT.x {w : World} {B n c : Nat} {A : Option Addr} {ts : List Nd} (h : OwnT w B A n c ts) : OwnX w A n c ts := ⟨B, h⟩
theorem OwnX.tree {w : World} {n c : Nat} {A : Option Addr} {ts : List Nd} (h : OwnX w A n c ts) : TreR w A n c ts := by obtain ⟨B, h⟩ := h; exact h.tree
theorem OwnX.below {w w' : World} {n c : Nat} {A : Option Addr} {ts : List Nd} (h : OwnX w A n c ts) (hb : Below w.heap.size w w') : OwnX w' A n c ts := by obtain ⟨B, h⟩ := h; exact ⟨B, h.below hb⟩
theorem OwnX.over {w w' : World} {n c g : Nat} {A : Option Addr} {ts : List Nd} {T : TypeId} {V : Array Value} (h : OwnX w A n c ts) (hr : RowA w g T V) (ht : T ≠ 51) (hg : w.grownBy w' (some g)) : OwnX w' A n c ts := by
 obtain ⟨B, h1, h2⟩ := h
 exact ⟨B, h1, h2.over hg fun q hq => by injection hq with hq; subst hq; exact h2.differ hr ht⟩
theorem OwnX.nil (w : World) : OwnX w none 0 0 [] := ⟨0, rfl, OwnR.nil _ _ _ _⟩
def DsO (w : World) (xs : List DS) : Prop := ∀ x ∈ xs, OwnX w x.A x.n x.c x.d.tr
theorem DsO.below {w w' : World} {xs : List DS} (h : DsO w xs) (hb : Below w.heap.size w w') : DsO w' xs := fun x hx => (h x hx).below hb
theorem DsO.over {w w' : World} {xs : List DS} {g : Nat} {T : TypeId} {V : Array Value} (h : DsO w xs) (hr : RowA w g T V) (ht : T ≠ 51) (hg : w.grownBy w' (some g)) : DsO w' xs := fun x hx => (h x hx).over hr ht hg
theorem DsO.dsr {w : World} {xs : List DS} (h : DsO w xs) : DsR w xs := fun x hx => (h x hx).tree
theorem DsO.snoc {w : World} {xs : List DS} (h : DsO w xs) {x : DS} (hx : OwnX w x.A x.n x.c x.d.tr) : DsO w (xs ++ [x]) := fun y hy => by
 rcases List.mem_append.1 hy with hy | hy
 · exact h y hy
 · rw [List.mem_singleton.1 hy]; exact hx
theorem OwnD.rowA {w : World} {B n c : Nat} {A : Option Addr} {xs : List DS} (h : OwnD w B A n c xs) {g : Nat} (hg : Value.ownBlock (.slice A n c) = some g) : ∃ V, RowA w g 49 V := by
 rcases h.2.2 with ⟨hv, h0⟩ | ⟨g2, cap, cur, hv, hB, hgc, _⟩
 · rw [hv] at hg; cases hg
 · rw [hv] at hg
   have e3 : g2 = g := by injection hg
   subst e3
   exact ⟨cur, hgc⟩
theorem td_tn : 49 ≠ 51 := by decide
theorem DsO.grown {w w' : World} {B n c : Nat} {A : Option Addr} {xs ys : List DS} (h : DsO w ys) (ho : OwnD w B A n c xs) (hg : w.grownBy w' (Value.ownBlock (.slice A n c))) : DsO w' ys := by
 intro y hy
 obtain ⟨B2, h1, h2⟩ := h y hy
 refine ⟨B2, h1, h2.over hg fun q hq => ?_⟩
 obtain ⟨V, hr⟩ := ho.rowA hq
 exact h2.differ hr td_tn
theorem OwnX.grown {w w' : World} {B n c m d : Nat} {A C : Option Addr} {xs : List DS} {ts : List Nd} (h : OwnX w C m d ts) (ho : OwnD w B A n c xs) (hg : w.grownBy w' (Value.ownBlock (.slice A n c))) : OwnX w' C m d ts := by
 obtain ⟨B2, h1, h2⟩ := h
 refine ⟨B2, h1, h2.over hg fun q hq => ?_⟩
 obtain ⟨V, hr⟩ := ho.rowA hq
 exact h2.differ hr td_tn
theorem grown_set (w : World) (g k : Nat) (v : Value) : w.grownBy (w.setCell ⟨g, k, none⟩ v) (some g) :=
 ⟨rfl, rfl, rfl, by simp, fun i _ hr => Below.heap_setCell w _ v i (fun e => hr (by subst e; rfl))⟩
theorem DsO.set {w : World} {B n c g k : Nat} {xs ys : List DS} {v : Value} (h : DsO w ys) (ho : OwnD w B (some ⟨g, 0, none⟩) n c xs) : DsO (w.setCell ⟨g, k, none⟩ v) ys := by
 obtain ⟨V, hr⟩ := ho.rowA (g := g) rfl
 exact h.over hr td_tn (grown_set w g k v)
theorem OwnX.set {w : World} {B n c g k m d : Nat} {A : Option Addr} {xs : List DS} {ts : List Nd} {v : Value} (h : OwnX w A m d ts) (ho : OwnD w B (some ⟨g, 0, none⟩) n c xs) : OwnX (w.setCell ⟨g, k, none⟩ v) A m d ts := by
 obtain ⟨V, hr⟩ := ho.rowA (g := g) rfl
 exact h.over hr td_tn (grown_set w g k v)
end Go.Proofs.YtheaepceghnkpaaDoor

/- What keep.Bare, keep.LargeTree answer, as contracts over memory. Conditions: rows of nodes that can be read. -/
namespace Go.Proofs.YtheaepceghnkpaaDoor
open Go.RowKit Limb
set_option linter.unusedVariables false
theorem map_set_step {ts : List Nd} {f : Nd → Nd} {i : Nat} {x : Nd} (hx : ts[i]? = some x) : ((ts.take i).map f ++ ts.drop i).set i (f x) = (ts.take (i + 1)).map f ++ ts.drop (i + 1) := by
 have hi := (List.getElem?_eq_some_iff.1 hx).1
 have h2 : ((ts.take i).map f).length = i := by simp; omega
 rw [List.set_append_right (h := by rw [h2]; exact Nat.le_refl _), h2, Nat.sub_self, List.drop_eq_getElem_cons hi, List.set_cons_zero, List.take_add_one, hx]
 simp
theorem map_at_step {ts : List Nd} {f : Nd → Nd} {i : Nat} {x : Nd} (hx : ts[i]? = some x) : ((ts.take i).map f ++ ts.drop i)[i]? = some x := by
 have hi := (List.getElem?_eq_some_iff.1 hx).1
 have h2 : ((ts.take i).map f).length = i := by simp; omega
 rw [List.getElem?_append_right (by rw [h2]; exact Nat.le_refl _), h2, Nat.sub_self, List.drop_eq_getElem_cons hi, List.getElem?_cons_zero, (List.getElem?_eq_some_iff.1 hx).2]
def atL (p : Int) (ts : List Nd) (i : Nat) : List Nd := (ts.take i).map (fun x => { x with p := p }) ++ ts.drop i
theorem atL_zero (p : Int) (ts : List Nd) : atL p ts 0 = ts := by simp [atL]
theorem atL_all (p : Int) (ts : List Nd) : atL p ts ts.length = ts.map (fun x => { x with p := p }) := by simp [atL]
set_option maxHeartbeats 4000000 in
set_option maxRecDepth 100000 in
theorem kBare_c {w : World} {A : Option Addr} {n c : Nat} {ts : List Nd} (h : TreR w A n c ts) (hn6 : n ≤ 1000000) :
 Calls Tryd.prog 21 #[.slice A n c] w fun e w' => ∃ A2 c2, e = .returned (.slice A2 n c2) ∧ OwnT w' w.heap.size A2 n c2 (ts.map bareN) ∧ Below w.heap.size w w' := by
 have hn := h.1
 have HN := Lib.hid hn
 have HO := Lib.hid (kOwnT_c h hn6)
 clear h hn
 go_enter Tryd.func21, Tryd.ntmps21
 go_wp2_with fail
 refine HO.out.mono ?_
 rintro e w1 ⟨A2, c2, rfl, ho, bn⟩
 have HO0 : Hid (OwnT w1 w.heap.size A2 n c2 (atL 0 ts 0)) := by show OwnT _ _ _ _ _ _; rw [atL_zero]; exact ho
 have hcc := ho.2.caps.1
 have HB0 := Lib.hid bn
 clear ho bn HO
 go_wp2
 go_loopw [4] (fun i wr => ∃ k : Nat, i = .int .i64 (k : Int) ∧ k ≤ n ∧ Hid (OwnT wr w.heap.size A2 n c2 (atL 0 ts k)) ∧ Hid (Below w.heap.size w wr)) (fun i _ => n - (intOf i).toNat)
 case atStart => exact ⟨0, rfl, Nat.zero_le _, HO0, HB0⟩
 case round =>
  obtain ⟨k, rfl, hk, HO, HB⟩ := hrel
  by_cases hlt : k < n
  · skip
    obtain ⟨x, hx⟩ : ∃ x, ts[k]? = some x := ⟨_, List.getElem?_eq_getElem (by rw [← HN.out]; exact hlt)⟩
    have hx2 : (atL 0 ts k)[k]? = some x := map_at_step hx
    obtain ⟨g, rfl, hgB, _⟩ := HO.out.blk (by omega)
    have c6 := HO.out.inV hx2 6 (.int .i64 x.p) rfl
    have f6 := HO.out.free (k * 7 + 6)
    have HO2 : Hid (OwnT (wr.setCell ⟨g, k * 7 + 6, none⟩ (.int .i64 0)) w.heap.size (some ⟨g, 0, none⟩) n c2 (atL 0 ts (k + 1))) := by
     show OwnT _ _ _ _ _ _
     have h := HO.out.set (r := 6) (y := { x with p := 0 }) (v := .int .i64 0) hx2 (by decide) rfl
     unfold atL at h ⊢
     rw [map_set_step (f := fun x => { x with p := 0 }) hx] at h
     exact h
    have HB2 := Lib.hid (below_set HB.out hgB (k * 7 + 6) (.int .i64 0))
    clear hx hx2 HO HB
    go_wp2
    go_roundw
    case rel => exact ⟨k + 1, by go_num, hlt, HO2, HB2⟩
    case measure => simp [intOf]; omega
  · obtain rfl : n = k := by omega
    have HOf : Hid (OwnT wr w.heap.size A2 n c2 (ts.map bareN)) := by show OwnT _ _ _ _ _ _; have h := HO.out; rw [HN.out, atL_all] at h; rw [HN.out]; exact h
    go_wp2
    go_ret
    exact ⟨_, _, rfl, HOf.out, HB.out⟩
end Go.Proofs.YtheaepceghnkpaaDoor

/- What package keep's OwnScript answers, as a contract over memory. Conditions: what is handed in reads in memory, is not too much. -/
namespace Go.Proofs.YtheaepceghnkpaaDoor
open Go.RowKit Limb
set_option linter.unusedVariables false
set_option maxHeartbeats 4000000 in
set_option maxRecDepth 100000 in
theorem kOwnS_c {w : World} {A : Option Addr} {n c : Nat} {ds : List Dc} (h : DcR w A n c ds) (hn6 : n ≤ 100000) (hm : ∀ d ∈ ds, d.tr.length ≤ 1000000) :
 Calls Tryd.prog 20 #[.slice A n c] w fun e w' => ∃ A2 c2 xs, e = .returned (.slice A2 n c2) ∧ OwnD w' w.heap.size A2 n c2 xs ∧ DsO w' xs ∧ xs.map DS.d = ds ∧ Below w.heap.size w w' := by
 have hn := h.len
 have hc : n ≤ c ∧ c ≤ maxLen := by obtain ⟨_, _, _, a, b, _⟩ := h; exact ⟨a, b⟩
 obtain ⟨hc, hcm⟩ := hc
 have H := Lib.hid h
 have HN := Lib.hid hn
 have HM := Lib.hid hm
 clear h hn hm
 have eq1 : maxLen = 9223372036854775807 := rfl
 go_enter Tryd.func20, Tryd.ntmps20
 go_wp2
 go_loopw [3, 4] (fun s i wr => ∃ (k0 : Nat) (A9 : Option Addr) (c9 : Nat) (xs : List DS), s = .slice A9 k0 c9 ∧ i = .int .i64 (k0 : Int) ∧ k0 ≤ n ∧ Hid (OwnD wr w.heap.size A9 k0 c9 xs) ∧ Hid (DsO wr xs) ∧ Hid (xs.map DS.d = ds.take k0) ∧ Hid (Below w.heap.size w wr)) (fun _ i _ => n - (intOf i).toNat)
 case atStart => exact ⟨0, none, 0, [], rfl, rfl, Nat.zero_le _, ⟨rfl, OwnR.nil _ _ _ _⟩, fun x hx => (by cases hx), rfl, Below.refl _ _⟩
 case round =>
  obtain ⟨k0, A9, c9, xs, rfl, rfl, hk, HO, HD, HX, HB⟩ := hrel
  by_cases hlt : k0 < n
  · skip
    obtain ⟨x, hx⟩ : ∃ x, ds[k0]? = some x := ⟨_, List.getElem?_eq_getElem (by rw [← HN.out]; exact hlt)⟩
    have HXx := Lib.hid hx
    have hlen := HM.out x (List.mem_of_getElem? hx)
    obtain ⟨g, og, A1, q1, c1, nm1, ot1, nu1, va1, un1, rfl, hg, hin, ht1, u1, u2, u3, u4, u5⟩ := (H.out.below HB.out).at2 hx
    have hq1 := ht1.1
    have hq6 : q1 ≤ 1000000 := by omega
    have HU := Lib.hid (And.intro u1 (And.intro u2 (And.intro u3 (And.intro u4 u5))))
    have HI_x : Hid (InV wr g (og + k0 * 9) (dcC x.k nm1 ot1 nu1 va1 un1 A1 q1 c1 x.pl x.at')) := hin
    have HM_x := Lib.hid (manyDc x.k nm1 ot1 nu1 va1 un1 A1 q1 c1 x.pl x.at')
    have HU_x : Hid (Many Tryd.prog 49 (dcC x.k nm1 ot1 nu1 va1 un1 A1 q1 c1 x.pl x.at').size ∧ zDc.size = (dcC x.k nm1 ot1 nu1 va1 un1 A1 q1 c1 x.pl x.at').size ∧ ∀ v ∈ dcC x.k nm1 ot1 nu1 va1 un1 A1 q1 c1 x.pl x.at', v.oneCell' = true) := ⟨manyDc _ _ _ _ _ _ _ _ _ _ _, rfl, by simp [Value.oneCell']⟩
    have HT1 := Lib.hid ht1
    clear hx hin hg ht1 u1 u2 u3 u4 u5 hlen hq1
    go_upto_region 6 with (first | (refine wpList_loadV (by rfl) _ _ (by rfl) _ _ (by rfl) _ (by assumption) (by assumption) ?_) | (refine wpList_storeNew (by rfl) _ _ _ (by rfl) _ _ _ (by rfl) (by rfl) (by assumption) ?_))
    dsimp only [Act.put]
    have hrx := rowA_new wr 49 (dcC x.k nm1 ot1 nu1 va1 un1 A1 q1 c1 x.pl x.at')
    have bn := below_new wr (.cells (dcC x.k nm1 ot1 nu1 va1 un1 A1 q1 c1 x.pl x.at') 49)
    have hws : (wr.alloc (.cells (dcC x.k nm1 ot1 nu1 va1 un1 A1 q1 c1 x.pl x.at') 49)).heap.size = wr.heap.size + 1 := by simp
    have HBx := Lib.hid bn
    generalize wr.alloc (.cells (dcC x.k nm1 ot1 nu1 va1 un1 A1 q1 c1 x.pl x.at') 49) = wS at *
    obtain ⟨q9, hq9⟩ : ∃ g, g = wr.heap.size := ⟨_, rfl⟩
    rw [← hq9] at hrx ⊢
    have Hq9 := Lib.hid hq9
    have hq9s : Hid (q9 < wS.heap.size) := by show _ < _; omega
    have HRx := Lib.hid hrx
    have kt6 := hrx.cell (k := 6) (v := .slice A1 q1 c1) rfl
    have HT2 := Lib.hid (HT1.out.below HBx.out)
    clear hq9 HI_x HU_x HM_x bn hrx hws HT1
    go_wp2_with fail
    refine (kOwnT_c HT2.out hq6).mono ?_
    rintro e wC ⟨A2, c2, rfl, hO2, bn⟩
    have HBc := Lib.hid (below_two HBx.out bn)
    have hcx := (HRx.out.below bn)
    have HRc := Lib.hid hcx
    have f6 := hcx.free 6
    have kc6 := hcx.cell (k := 6) (v := .slice A1 q1 c1) rfl
    obtain ⟨V2, hV2⟩ : ∃ V, V = dcC x.k nm1 ot1 nu1 va1 un1 A2 q1 c2 x.pl x.at' := ⟨_, rfl⟩
    have HRz : Hid (RowA (wC.setCell ⟨q9, 6, none⟩ (.slice A2 q1 c2)) q9 49 (dcC x.k nm1 ot1 nu1 va1 un1 A2 q1 c2 x.pl x.at')) := RowA.set hcx 6 (.slice A2 q1 c2)
    have HBz : Hid (Below wr.heap.size wr (wC.setCell ⟨q9, 6, none⟩ (.slice A2 q1 c2))) := below_set HBc.out (Nat.le_of_eq Hq9.out.symm) 6 _
    have HOz : Hid (OwnD (wC.setCell ⟨q9, 6, none⟩ (.slice A2 q1 c2)) w.heap.size A9 k0 c9 xs) := HO.out.below HBz.out
    have HDz : Hid (DsO (wC.setCell ⟨q9, 6, none⟩ (.slice A2 q1 c2)) xs) := HD.out.below HBz.out
    have HXz : Hid (OwnX (wC.setCell ⟨q9, 6, none⟩ (.slice A2 q1 c2)) A2 q1 c2 x.tr) := hO2.x.over hcx td_tn (grown_set _ _ _ _)
    have HBw : Hid (Below w.heap.size w (wC.setCell ⟨q9, 6, none⟩ (.slice A2 q1 c2))) := below_two HB.out HBz.out
    clear bn hcx hO2 HO HD HB HRx kt6 HT2 HBx HBc hV2 HBz
    skip
    have HI_y := Lib.hid HRz.out.inV
    have HM_y := Lib.hid (manyDc x.k nm1 ot1 nu1 va1 un1 A2 q1 c2 x.pl x.at')
    generalize hwz : wC.setCell ⟨q9, 6, none⟩ (.slice A2 q1 c2) = wZ at HRz HOz HDz HXz HBw HI_y
    have b2 := below_new wZ (.cells (dcC x.k nm1 ot1 nu1 va1 un1 A2 q1 c2 x.pl x.at') 49)
    have hrow := rowA_new wZ 49 (dcC x.k nm1 ot1 nu1 va1 un1 A2 q1 c2 x.pl x.at')
    have HOo : Hid (OwnR (wZ.alloc (.cells (dcC x.k nm1 ot1 nu1 va1 un1 A2 q1 c2 x.pl x.at') 49)) w.heap.size 49 9 A9 k0 c9 (dcCells xs)) := (HOz.out.below b2).2
    have HOd : Hid (OwnD (wZ.alloc (.cells (dcC x.k nm1 ot1 nu1 va1 un1 A2 q1 c2 x.pl x.at') 49)) w.heap.size A9 k0 c9 xs) := HOz.out.below b2
    have HDo : Hid (DsO (wZ.alloc (.cells (dcC x.k nm1 ot1 nu1 va1 un1 A2 q1 c2 x.pl x.at') 49)) xs) := HDz.out.below b2
    have HXo : Hid (OwnX (wZ.alloc (.cells (dcC x.k nm1 ot1 nu1 va1 un1 A2 q1 c2 x.pl x.at') 49)) A2 q1 c2 x.tr) := HXz.out.below b2
    have HLx : Hid (RowA (wZ.alloc (.cells (dcC x.k nm1 ot1 nu1 va1 un1 A2 q1 c2 x.pl x.at') 49)) wZ.heap.size 49 (dcC x.k nm1 ot1 nu1 va1 un1 A2 q1 c2 x.pl x.at') ∧ (dcC x.k nm1 ot1 nu1 va1 un1 A2 q1 c2 x.pl x.at').size = 9 ∧ ∀ v ∈ dcC x.k nm1 ot1 nu1 va1 un1 A2 q1 c2 x.pl x.at', v.oneCell' = true) := ⟨hrow, rfl, by simp [Value.oneCell']⟩
    have HEx : Hid (k0 ≤ 1000000 ∧ w.heap.size ≤ (wZ.alloc (.cells (dcC x.k nm1 ot1 nu1 va1 un1 A2 q1 c2 x.pl x.at') 49)).heap.size) := ⟨by omega, Nat.le_trans HBw.out.size b2.size⟩
    have HBa := Lib.hid (below_two HBw.out b2)
    clear b2 hrow HOz HDz HXz HBw
    subst hwz
    have HLx3 : Hid (RowA ((wC.setCell ⟨q9, 6, none⟩ (.slice A2 q1 c2)).alloc (.cells (dcC x.k nm1 ot1 nu1 va1 un1 A2 q1 c2 x.pl x.at') 49)) wC.heap.size 49 (dcC x.k nm1 ot1 nu1 va1 un1 A2 q1 c2 x.pl x.at') ∧ (dcC x.k nm1 ot1 nu1 va1 un1 A2 q1 c2 x.pl x.at').size = 9 ∧ ∀ v ∈ dcC x.k nm1 ot1 nu1 va1 un1 A2 q1 c2 x.pl x.at', v.oneCell' = true) := by have h := HLx.out; rw [World.size_setCell] at h; exact h
    go_wp2_with (first | (refine wpList_loadV (by rfl) _ _ (by rfl) _ _ (by rfl) _ (by assumption) (by assumption) ?_) | (at_builtin; refine wpList_append_one rfl _ _ 25 rfl w.heap.size 49 9 dcs_elem A9 k0 c9 (dcCells xs) (by rfl) HOo wC.heap.size (by rfl) 49 (dcC x.k nm1 ot1 nu1 va1 un1 A2 q1 c2 x.pl x.at') HLx3 HEx ?_))
    intro A3 c3 w5 hO5 hg5
    have HB5 : Hid (Below w.heap.size w w5) := HBa.out.grown hg5.out HBa.out.size fun g hg => by have h9 := HOd.out.2.lt g hg; have := HBa.out.size; omega
    have HO5 : Hid (OwnD w5 w.heap.size A3 (k0 + 1) c3 (xs ++ [⟨x, A2, q1, c2⟩])) := by
     refine ⟨by rw [List.length_append, ← HOd.out.1]; rfl, ?_⟩
     have h := hO5.out
     rw [dcCells_snoc]
     unfold dcV
     dsimp only
     rw [HU.out.1, HU.out.2.1, HU.out.2.2.1, HU.out.2.2.2.1, HU.out.2.2.2.2]
     exact h
    have HD5 : Hid (DsO w5 (xs ++ [⟨x, A2, q1, c2⟩])) := (HDo.out.grown HOd.out hg5.out).snoc (HXo.out.grown HOd.out hg5.out)
    have HX5 : Hid ((xs ++ [(⟨x, A2, q1, c2⟩ : DS)]).map DS.d = ds.take (k0 + 1)) := by show _ = _; rw [List.map_append, HX.out, List.take_add_one, HXx.out]; rfl
    clear hO5 hg5 HOo HOd HDo HXo HLx HLx3 HEx HBa HRz HI_y HM_y HRc kc6 f6 HU HXx HX Hq9 hq9s
    go_wp2
    go_roundw
    case rel => exact ⟨k0 + 1, A3, c3, _, rfl, by go_num, hlt, HO5, HD5, HX5, HB5⟩
    case measure => simp [intOf]; omega
  · obtain rfl : n = k0 := by omega
    have HXf : Hid (xs.map DS.d = ds) := by show _ = _; rw [HX.out]; exact List.take_of_length_le (by rw [← HN.out]; exact Nat.le_refl _)
    go_wp2
    go_ret
    exact ⟨_, _, xs, rfl, HO.out, HD.out, HXf.out, HB.out⟩
end Go.Proofs.YtheaepceghnkpaaDoor

/- What package keep's BareScript answers, as a contract over memory. Conditions: what is handed in reads in memory, is not too much. -/
namespace Go.Proofs.YtheaepceghnkpaaDoor
open Go.RowKit Limb
set_option linter.unusedVariables false
def barL (ds : List Dc) (k : Nat) : List Dc := (ds.take k).map bareD ++ ds.drop k
theorem barL_zero (ds : List Dc) : barL ds 0 = ds := by simp [barL]
theorem barL_all (ds : List Dc) : barL ds ds.length = ds.map bareD := by simp [barL]
theorem barL_at {ds : List Dc} {k : Nat} {d : Dc} (h : ds[k]? = some d) : (barL ds k)[k]? = some d := by
 have hi := (List.getElem?_eq_some_iff.1 h).1
 have h2 : ((ds.take k).map bareD).length = k := by simp; omega
 unfold barL
 rw [List.getElem?_append_right (by rw [h2]; exact Nat.le_refl _), h2, Nat.sub_self, List.drop_eq_getElem_cons hi, List.getElem?_cons_zero, (List.getElem?_eq_some_iff.1 h).2]
theorem barL_set {ds : List Dc} {k : Nat} {d : Dc} (h : ds[k]? = some d) : (barL ds k).set k (bareD d) = barL ds (k + 1) := by
 have hi := (List.getElem?_eq_some_iff.1 h).1
 have h2 : ((ds.take k).map bareD).length = k := by simp; omega
 unfold barL
 rw [List.set_append_right (h := by rw [h2]; exact Nat.le_refl _), h2, Nat.sub_self, List.drop_eq_getElem_cons hi, List.set_cons_zero, List.take_add_one, h]
 simp
set_option maxHeartbeats 4000000 in
set_option maxRecDepth 100000 in
theorem kBareS_c {w : World} {A : Option Addr} {n c : Nat} {ds : List Dc} (h : DcR w A n c ds) (hn6 : n ≤ 100000) (hm : ∀ d ∈ ds, d.tr.length ≤ 1000000) :
 Calls Tryd.prog 10 #[.slice A n c] w fun e w' => ∃ A2 c2 xs, e = .returned (.slice A2 n c2) ∧ OwnD w' w.heap.size A2 n c2 xs ∧ DsO w' xs ∧ xs.map DS.d = ds.map bareD ∧ Below w.heap.size w w' := by
 have hn := h.len
 have HN := Lib.hid hn
 have HM := Lib.hid hm
 have HO := Lib.hid (kOwnS_c h hn6 hm)
 clear h hn hm
 go_enter Tryd.func10, Tryd.ntmps10
 go_wp2_with fail
 refine HO.out.mono ?_
 rintro e w1 ⟨A2, c2, xs, rfl, ho, hd, hx, bn⟩
 have HO0 := Lib.hid ho
 have HD0 := Lib.hid hd
 have HX0 : Hid (xs.map DS.d = barL ds 0) := by show _ = _; rw [barL_zero]; exact hx
 have HB0 := Lib.hid bn
 have hcc := ho.2.caps.1
 have hcm := ho.2.caps.2
 clear ho hd hx bn HO
 have eq1 : maxLen = 9223372036854775807 := rfl
 go_wp2
 go_loopw [4] (fun i wr => ∃ (k0 : Nat) (ys : List DS), i = .int .i64 (k0 : Int) ∧ k0 ≤ n ∧ Hid (OwnD wr w.heap.size A2 n c2 ys) ∧ Hid (DsO wr ys) ∧ Hid (ys.map DS.d = barL ds k0) ∧ Hid (Below w.heap.size w wr)) (fun i _ => n - (intOf i).toNat)
 case atStart => exact ⟨0, xs, rfl, Nat.zero_le _, HO0, HD0, HX0, HB0⟩
 case round =>
  clear HO0 HD0 HX0 HB0
  obtain ⟨k0, ys, rfl, hk, HO, HD, HX, HB⟩ := hrel
  by_cases hlt : k0 < n
  · skip
    obtain ⟨d, hd⟩ : ∃ d, ds[k0]? = some d := ⟨_, List.getElem?_eq_getElem (by rw [← HN.out]; exact hlt)⟩
    have HDx := Lib.hid hd
    have hlen := HM.out d (List.mem_of_getElem? hd)
    obtain ⟨x, hx, hxd⟩ : ∃ x, ys[k0]? = some x ∧ x.d = d := by
     have h := barL_at hd
     rw [← HX.out, List.getElem?_map] at h
     exact Option.map_eq_some_iff.1 h
    obtain ⟨d0, C, m, e0⟩ := x
    dsimp only at hxd
    subst hxd
    obtain ⟨g, rfl, hgB, hgl⟩ := HO.out.blk (by omega)
    have HXx := Lib.hid hx
    have ht := HD.out _ (List.mem_of_getElem? hx)
    dsimp only at ht
    have hm6 : m ≤ 1000000 := by have := ht.tree.1; omega
    have hcs := ht.tree.2.1
    have hcs2 := ht.tree.2.2.1
    have c8 := HO.out.inV hx 8 (.int .i64 d0.at') rfl
    have c6 := HO.out.inV hx 6 (.slice C m e0) rfl
    have f8 := HO.out.free (k0 * 9 + 8)
    have f6 := HO.out.free (k0 * 9 + 6)
    have HO2 : Hid (OwnD (wr.setCell ⟨g, k0 * 9 + 8, none⟩ (.int .i64 0)) w.heap.size (some ⟨g, 0, none⟩) n c2 (ys.set k0 ⟨{ d0 with at' := 0 }, C, m, e0⟩)) := HO.out.set hx (r := 8) (y := ⟨{ d0 with at' := 0 }, C, m, e0⟩) (v := .int .i64 0) (by decide) rfl
    have HD2 : Hid (DsO (wr.setCell ⟨g, k0 * 9 + 8, none⟩ (.int .i64 0)) ys) := HD.out.set HO.out
    have HT2 : Hid (TreR (wr.setCell ⟨g, k0 * 9 + 8, none⟩ (.int .i64 0)) C m e0 d0.tr) := (ht.set HO.out).tree
    have HB2 := Lib.hid (below_set HB.out hgB (k0 * 9 + 8) (.int .i64 0))
    clear hx hd HO HD HB ht hlen
    go_upto_region 6 with fail
    skip
    have f62 := HO2.out.free (k0 * 9 + 6)
    have c62 := HO2.out.inV (x := ⟨{ d0 with at' := 0 }, C, m, e0⟩) (List.getElem?_set_self (List.getElem?_eq_some_iff.1 HXx.out).1) 6 (.slice C m e0) rfl
    skip
    generalize wr.setCell ⟨g, k0 * 9 + 8, none⟩ (.int .i64 0) = wS at *
    clear c8 c6 f8 f6
    go_wp2_with fail
    refine (kBare_c HT2.out hm6).mono ?_
    rintro e wC ⟨A3, c3, rfl, hO3, bn⟩
    have HO3 := Lib.hid (HO2.out.below bn)
    have HD3 := Lib.hid (HD2.out.below bn)
    have HX3 := Lib.hid hO3.x
    have HB3 := Lib.hid (below_two HB2.out bn)
    have f63 := HO3.out.free (k0 * 9 + 6)
    have c63 := HO3.out.inV (x := ⟨{ d0 with at' := 0 }, C, m, e0⟩) (List.getElem?_set_self (List.getElem?_eq_some_iff.1 HXx.out).1) 6 (.slice C m e0) rfl
    have HO4 : Hid (OwnD (wC.setCell ⟨g, k0 * 9 + 6, none⟩ (.slice A3 m c3)) w.heap.size (some ⟨g, 0, none⟩) n c2 (ys.set k0 ⟨bareD d0, A3, m, c3⟩)) := by
     have h := HO3.out.set (x := ⟨{ d0 with at' := 0 }, C, m, e0⟩) (List.getElem?_set_self (List.getElem?_eq_some_iff.1 HXx.out).1) (r := 6) (y := ⟨bareD d0, A3, m, c3⟩) (v := .slice A3 m c3) (by decide) rfl
     rw [List.set_set] at h
     exact h
    have HD4 : Hid (DsO (wC.setCell ⟨g, k0 * 9 + 6, none⟩ (.slice A3 m c3)) (ys.set k0 ⟨bareD d0, A3, m, c3⟩)) := by
     intro y hy
     rcases List.mem_or_eq_of_mem_set hy with hy | rfl
     · exact (HD3.out y hy).set HO3.out
     · exact HX3.out.set HO3.out
    have HX4 : Hid ((ys.set k0 (⟨bareD d0, A3, m, c3⟩ : DS)).map DS.d = barL ds (k0 + 1)) := by show _ = _; rw [List.map_set, HX.out]; exact barL_set HDx.out
    have HB4 := Lib.hid (below_set HB3.out hgB (k0 * 9 + 6) (.slice A3 m c3))
    clear bn hO3 HO3 HD3 HX3 HB3 HO2 HD2 HT2 HB2 c62 f62 HXx HX HDx
    go_wp2
    go_roundw
    case rel => exact ⟨k0 + 1, _, by go_num, hlt, HO4, HD4, HX4, HB4⟩
    case measure => simp [intOf]; omega
  · obtain rfl : n = k0 := by omega
    have HXf : Hid (ys.map DS.d = ds.map bareD) := by show _ = _; rw [HX.out, HN.out, barL_all]
    go_wp2
    go_ret
    exact ⟨_, _, ys, rfl, HO.out, HD.out, HXf.out, HB.out⟩
end Go.Proofs.YtheaepceghnkpaaDoor

/- Mathematics of the grammar: a num's text, a unit's, as bytes. No condition. -/
namespace Go.Proofs.YtheaepceghnkpaaDoor
open Go.RowKit Limb
set_option linter.unusedVariables false
theorem numH_cases {b : List Nat} (h : numH b = true) : litGood b = true ∨ ∃ k, k < b.length ∧ lim b k = 47 ∧ litGood (b.take k) = true ∧ litGood (b.drop (k + 1)) = true ∧ ∀ i, i < k → lim b i ≠ 47 := by
 unfold numH at h
 split at h
 · rename_i hk
   rw [Bool.and_eq_true] at h
   have ht : b.take (b.takeWhile (· ≠ 47)).length = b.takeWhile (· ≠ 47) := take_whileL b
   refine .inr ⟨(b.takeWhile (· ≠ 47)).length, hk, ?_, by rw [ht]; exact h.1, h.2, fun i hi e => ?_⟩
   · have h9 := drop_lim hk
     have := while_next h9
     simpa using this
   · have h1 : lim (b.takeWhile (· ≠ 47)) i = lim b i := by
      rw [← ht]
      unfold lim
      rw [List.getD_eq_getElem?_getD, List.getD_eq_getElem?_getD, List.getElem?_take_of_lt hi]
     have hm : lim (b.takeWhile (· ≠ 47)) i ∈ b.takeWhile (· ≠ 47) := by
      unfold lim
      rw [List.getD_eq_getElem?_getD, List.getElem?_eq_getElem hi]
      exact List.getElem_mem hi
     have := while_mem _ hm
     rw [h1, e] at this
     exact absurd this (by decide)
 · exact .inl h
theorem numG_cases {s : List Nat} (h : numG s = true) : (∃ r, s = 45 :: r ∧ numH r = true) ∨ (∃ c r, s = c :: r ∧ c ≠ 45 ∧ numH s = true) := by
 cases s with
 | nil => exact absurd h (by decide)
 | cons c r =>
  unfold numG at h
  by_cases hc : c = 45
  · have h2 : (if c = 45 then numH r else numH (c :: r)) = true := h
    rw [if_pos hc] at h2
    exact .inl ⟨r, by rw [hc], h2⟩
  · have h2 : (if c = 45 then numH r else numH (c :: r)) = true := h
    rw [if_neg hc] at h2
    exact .inr ⟨c, r, rfl, hc, h2⟩
theorem unitG_facts {u : List Nat} (h : unitG u = true) : Bytes u ∧ u.length ≤ 200 ∧ u.all inUn = true := by
 unfold unitG at h
 simp only [Bool.and_eq_true, decide_eq_true_eq] at h
 exact ⟨fun c hc => by have := List.all_eq_true.1 h.2 c hc; simpa using this, h.1.1, h.1.2⟩
end Go.Proofs.YtheaepceghnkpaaDoor

/- Mathematics of declarations that may be: how long their texts are; what lies in a tree that may be. No condition. -/
namespace Go.Proofs.YtheaepceghnkpaaDoor
open Go.RowKit Limb
set_option linter.unusedVariables false
theorem begF_fits {ts : List Nd} : ∀ {o q : List Nat}, begF (some o) ts = some q → ∀ x ∈ ts, fitsN x = true := by
 induction ts with
 | nil => intro o q _ x hx; cases hx
 | cons y r ih =>
  intro o q h x hx
  obtain ⟨s, h1, h2⟩ := begF_cons h
  rcases List.mem_cons.1 hx with rfl | hx
  · exact (stepB_cases h1).1
  · exact ih h2 x hx
theorem fits_sizes {x : Nd} (h : fitsN x = true) : x.t.size ≤ 400 ∧ x.u.size ≤ 200 := by
 unfold fitsN at h
 by_cases h1 : x.k = 1
 · rw [if_pos h1] at h
   simp only [Bool.and_eq_true, decide_eq_true_eq] at h
   have h2 := (litGood_iff.1 h.1.2).2.1
   rw [length_bytesOf] at h2
   have h3 := h.2
   unfold unitOk at h3
   rw [Bool.and_eq_true, decide_eq_true_eq] at h3
   exact ⟨h2, h3.1⟩
 · rw [if_neg h1] at h
   by_cases h2 : x.k = 2
   · rw [if_pos h2] at h
     simp only [Bool.and_eq_true, decide_eq_true_eq] at h
     have h3 : isWdB (bytesOf x.t) = true := by have := h.2; unfold isNam at this; rw [Bool.and_eq_true] at this; exact this.1
     have h4 : (bytesOf x.t).length ≤ 16 := by
      cases hb : bytesOf x.t with
      | nil => simp
      | cons c r => rw [hb] at h3; unfold isWdB at h3; simp only [Bool.and_eq_true, decide_eq_true_eq] at h3; rw [List.length_cons]; omega
     rw [length_bytesOf] at h4
     exact ⟨by omega, by omega⟩
   · rw [if_neg h2] at h
     have hz : x.t.size = 0 ∧ x.u.size = 0 := by
      by_cases h3 : twoK x.k = true
      · rw [if_pos h3] at h; simp only [Bool.and_eq_true, decide_eq_true_eq] at h; exact ⟨h.1.2, h.2⟩
      · rw [if_neg h3] at h
        by_cases h4 : x.k = 7
        · rw [if_pos h4] at h; simp only [Bool.and_eq_true, decide_eq_true_eq] at h; exact ⟨h.1.2, h.2⟩
        · rw [if_neg h4] at h
          by_cases h5 : x.k = 8
          · rw [if_pos h5] at h; simp only [Bool.and_eq_true, decide_eq_true_eq] at h; exact ⟨h.1.1.1.2, h.1.1.2⟩
          · rw [if_neg h5] at h; cases h
     omega
theorem good_mild {ts : List Nd} (h : goodT ts = true) : ts.length ≤ 2000 ∧ ∀ x ∈ ts, x.t.size ≤ 400 ∧ x.u.size ≤ 200 := by
 obtain ⟨_, h2, o, hb, _⟩ := good_all h
 exact ⟨h2, fun x hx => fits_sizes (begF_fits hb x hx)⟩
theorem isNam_len {l : List Nat} (h : isNam l = true) : l.length ≤ 16 := by
 have h3 : isWdB l = true := by unfold isNam at h; rw [Bool.and_eq_true] at h; exact h.1
 cases l with
 | nil => simp
 | cons c r => unfold isWdB at h3; simp only [Bool.and_eq_true, decide_eq_true_eq] at h3; rw [List.length_cons]; omega
theorem numH_len {b : List Nat} (h : numH b = true) : b.length ≤ 802 := by
 rcases numH_cases h with h | ⟨k, h1, _, h3, h4, _⟩
 · have := (litGood_iff.1 h).2.1; omega
 · have h5 := (litGood_iff.1 h3).2.1
   have h6 := (litGood_iff.1 h4).2.1
   rw [List.length_take] at h5
   rw [List.length_drop] at h6
   omega
theorem numG_len {s : List Nat} (h : numG s = true) : s.length ≤ 803 := by
 rcases numG_cases h with ⟨r, rfl, h⟩ | ⟨c, r, rfl, _, h⟩
 · have := numH_len h; rw [List.length_cons]; omega
 · have := numH_len h; omega
theorem goodD_sizes {d : Dc} (h : goodD d = true) : d.nm.length ≤ 1000 ∧ d.ot.length ≤ 1000 ∧ d.nu.length ≤ 1000 ∧ d.va.length ≤ 1000 ∧ d.un.length ≤ 1000 ∧ (d.tr = [] ∨ goodT d.tr = true) := by
 unfold goodD at h
 rw [Bool.and_eq_true, Bool.and_eq_true] at h
 obtain ⟨⟨g1, g2⟩, g3⟩ := h
 have h1 := isNam_len g1
 have h2 := (unitG_facts g2).2.1
 refine ⟨by omega, ?_⟩
 by_cases k1 : d.k = 1
 · rw [if_pos k1] at g3
   simp only [Bool.and_eq_true, decide_eq_true_eq] at g3
   obtain ⟨⟨⟨⟨⟨p1, p2⟩, p3⟩, p4⟩, p5⟩, _⟩ := g3
   have := numG_len p1
   rw [p3, p4]
   exact ⟨by simp, by omega, by simp, by omega, .inl (List.eq_nil_of_length_eq_zero p5)⟩
 · rw [if_neg k1] at g3
   by_cases k2 : d.k = 2
   · rw [if_pos k2] at g3
     simp only [Bool.and_eq_true, decide_eq_true_eq] at g3
     obtain ⟨⟨⟨⟨p1, p2⟩, p3⟩, p5⟩, _⟩ := g3
     have := numG_len p1
     have := numG_len p2
     rw [p3]
     exact ⟨by simp, by omega, by omega, by omega, .inl (List.eq_nil_of_length_eq_zero p5)⟩
   · rw [if_neg k2] at g3
     by_cases k3 : d.k = 3
     · rw [if_pos k3] at g3
       simp only [Bool.and_eq_true, decide_eq_true_eq] at g3
       obtain ⟨⟨⟨⟨⟨p1, p2⟩, p3⟩, p4⟩, p5⟩, _⟩ := g3
       have := numG_len p1
       have := isNam_len p2
       rw [p3, p4]
       exact ⟨by omega, by omega, by simp, by simp, .inl (List.eq_nil_of_length_eq_zero p5)⟩
     · rw [if_neg k3] at g3
       by_cases k4 : d.k = 4
       · rw [if_pos k4] at g3
         simp only [Bool.and_eq_true, decide_eq_true_eq] at g3
         obtain ⟨⟨⟨⟨⟨p1, p2⟩, p3⟩, p4⟩, p5⟩, _⟩ := g3
         rw [p2, p3, p4, p5]
         exact ⟨by simp, by simp, by simp, by simp, .inr p1⟩
       · rw [if_neg k4] at g3
         by_cases k5 : d.k = 5
         · rw [if_pos k5] at g3
           simp only [Bool.and_eq_true, decide_eq_true_eq] at g3
           obtain ⟨⟨⟨⟨⟨p1, p2⟩, p2'⟩, p3⟩, p4⟩, p5⟩ := g3
           rw [p3, p4, p5]
           exact ⟨by simp, by simp, by simp, by omega, .inr p1⟩
         · rw [if_neg k5] at g3; cases g3
end Go.Proofs.YtheaepceghnkpaaDoor

/- append of a row of declarations to an own row of declarations. No condition. -/
namespace Go.Proofs.YtheaepceghnkpaaDoor
open Go.RowKit Limb
set_option linter.unusedVariables false
theorem wpList_append_ds {w : World} {ops : Array Oper} {rest : List Oper} {o : Oper} {a : Act} {Q : Exit → Act → World → Prop} (hgd : o.guard = none) (s x : Operand)
 (ho : o.op = .call { callee := .builtin .append, args := #[s, x], argTypes := #[25, 25] })
 (base : Nat) (v : Value) (n : Nat) (xs : List DS) (hs : a.eval s = v) (hown : Hid (w.ownsRow base 49 9 v n (dcCells xs)))
 (B2 : Nat) (A : Option Addr) (m c : Nat) (ys : List DS) (hx : a.eval x = .slice A m c) (hy : Hid (OwnD w B2 A m c ys)) (hb : Hid (n ≤ 1000000 ∧ m ≤ 1000000 ∧ base ≤ w.heap.size))
 (h : ∀ A2 c2 w', Hid (OwnR w' base 49 9 A2 (n + m) c2 (dcCells (xs ++ ys))) → Hid (w.grownBy w' v.ownBlock) → wpList Tryd.prog ops Q rest (a.put o.dst (.slice A2 (n + m) c2)) w') : wpList Tryd.prog ops Q (o :: rest) a w := by
 obtain ⟨i, z, h1, h2, h3, h4, h5, h6, h7⟩ := dcs_elem
 obtain ⟨b1, b2, b3⟩ := hb.out
 have y1 := hy.out.1
 have hcap := hy.out.2.caps
 rcases Nat.eq_zero_or_pos m with h0 | h0
 · subst h0
   obtain rfl : ys = [] := List.eq_nil_of_length_eq_zero y1.symm
   rcases A with _ | ad
   · refine wpList_plain hgd fun KK hK => ?_
     have hrun := run_append_nothing (P := Tryd.prog) w base 25 o.type 49 i 9 h1 h2 v n (dcCells xs) hown.out c
     unfold Oper.wp execOp
     simp only [ho, resolve, invoke, builtin, Sem.run_bind, Sem.run_pure, Result.andThen_ok, List.map_toArray, List.map_cons, List.map_nil, hs, hx, hrun]
     obtain ⟨A2, c2, rfl, how⟩ := shape_row hown.out
     exact hK _ _ (h A2 c2 w (by rw [List.append_nil]; exact how) (World.grownBy.refl w _))
   · refine wpList_append_own w hgd s x 25 ho base 49 i z 9 i.bytes h1 h2 h3 h4 rfl h5 h6 v n (dcCells xs) hs hown.out ad 0 c [] hx rfl (fun j u hu => by simp at hu) (fun u hu => by cases hu) (by unfold maxLen; omega) ?_ b3 ?_
     · exact Nat.le_trans (Nat.mul_le_mul (show n + 0 ≤ 1000001 by omega) h7) (by decide)
     · intro v' w' ho' hg _
       obtain ⟨A2, c2, rfl, how⟩ := shape_row ho'
       exact h A2 c2 w' (show OwnR _ _ _ _ _ _ _ _ from by rw [List.append_nil]; simpa using how) hg
 · obtain ⟨g, e, _, hg, _, _, hc⟩ := hy.out.2.cells h0
   subst e
   refine wpList_append_own w hgd s x 25 ho base 49 i z 9 i.bytes h1 h2 h3 h4 rfl h5 h6 v n (dcCells xs) hs hown.out ⟨g, 0, none⟩ m c (dcCells ys) hx (by rw [len_dcCells, y1]) (fun j u hu => ?_) (fun u hu => dcCells_one ys u hu) (by unfold maxLen; omega) ?_ b3 ?_
   · rw [Addr.add_mid, Nat.zero_add]
     exact hc j u hu
   · exact Nat.le_trans (Nat.mul_le_mul (show n + m ≤ 2000000 by omega) h7) (by decide)
   · intro v' w' ho' hg _
     obtain ⟨A2, c2, rfl, how⟩ := shape_row ho'
     exact h A2 c2 w' (by rw [dcCells_app]; exact how) hg
end Go.Proofs.YtheaepceghnkpaaDoor

/- Mathematics of formulas: a tree that may be is a formula's nodes, one behind the other. No condition. -/
namespace Go.Proofs.YtheaepceghnkpaaDoor
open Go.RowKit Limb
set_option linter.unusedVariables false
inductive Fm where
 | lit : ByteArray → ByteArray → Fm
 | ref : ByteArray → Fm
 | two : Int → Fm → Fm → Fm
 | neg : Fm → Fm
 | pow : Int → Fm → Fm
def Fm.nds : Fm → List Nd
 | .lit s u => [⟨1, 0, 0, 0, s, u, 0⟩]
 | .ref s => [⟨2, 0, 0, 0, s, ⟨#[]⟩, 0⟩]
 | .two k a b => joinN k a.nds b.nds 0
 | .neg a => overN 7 0 a.nds 0
 | .pow j a => overN 8 j a.nds 0
def Fm.kind : Fm → Int
 | .lit _ _ => 1
 | .ref _ => 2
 | .two k _ _ => k
 | .neg _ => 7
 | .pow _ _ => 8
def Fm.Ok : Fm → Prop
 | .lit s u => litGood (bytesOf s) = true ∧ unitOk u = true
 | .ref s => isNam (bytesOf s) = true
 | .two k a b => twoK k = true ∧ a.Ok ∧ b.Ok
 | .neg a => a.Ok
 | .pow j a => -64 ≤ j ∧ j ≤ 64 ∧ a.Ok
def Fm.size : Fm → Nat
 | .lit _ _ => 1
 | .ref _ => 1
 | .two _ a b => a.size + b.size + 1
 | .neg a => a.size + 1
 | .pow _ a => a.size + 1
theorem Fm.len : ∀ f : Fm, f.nds.length = f.size
 | .lit _ _ => rfl
 | .ref _ => rfl
 | .two k a b => by unfold Fm.nds joinN Fm.size; rw [List.length_append, List.length_append, List.length_map, a.len, b.len]; rfl
 | .neg a => by unfold Fm.nds overN Fm.size; rw [List.length_append, a.len]; rfl
 | .pow j a => by unfold Fm.nds overN Fm.size; rw [List.length_append, a.len]; rfl
theorem Fm.pos (f : Fm) : 1 ≤ f.size := by cases f <;> simp [Fm.size]
theorem shift_shift (c d : Nat) (x : Nd) : shiftN d (shiftN c x) = shiftN (c + d) x := by
 by_cases h2 : twoK x.k = true
 · rw [shiftN_two h2, shiftN_two (by exact h2), shiftN_two h2]
   simp only [Nd.mk.injEq, true_and, and_true]
   constructor <;> omega
 · by_cases h1 : oneK x.k = true
   · rw [shiftN_one h1, shiftN_one (by exact h1), shiftN_one h1]
     simp only [Nd.mk.injEq, true_and, and_true]
     omega
   · have h2' : twoK x.k = false := by simpa using h2
     have h1' : oneK x.k = false := by simpa using h1
     rw [shiftN_leaf h2' h1', shiftN_leaf h2' h1', shiftN_leaf h2' h1']
def flatR : List Fm → List Nd
 | [] => []
 | f :: r => flatR r ++ f.nds.map (shiftN (flatR r).length)
def ChOk (o : List Nat) : List Fm → Prop
 | [] => True
 | f :: r => o.getD ((flatR (f :: r)).length - 1) 0 = (flatR r).length ∧ ChOk o r
theorem flat_len (f : Fm) (r : List Fm) : (flatR (f :: r)).length = (flatR r).length + f.size := by
 show (flatR r ++ f.nds.map _).length = _
 rw [List.length_append, List.length_map, f.len]
theorem ChOk.snoc {o : List Nat} (s : Nat) : ∀ {fs : List Fm}, ChOk o fs → (flatR fs).length ≤ o.length → ChOk (o ++ [s]) fs
 | [], _, _ => trivial
 | f :: r, h, hl => by
  obtain ⟨h1, h2⟩ := h
  rw [flat_len] at hl
  have hp := f.pos
  refine ⟨?_, h2.snoc s (by omega)⟩
  rw [getD_snoc_lt (by rw [flat_len]; omega)]; exact h1
def Stk (P : List Nd) (o : List Nat) (fs : List Fm) : Prop := P.map bareN = flatR fs ∧ o.length = P.length ∧ ChOk o fs ∧ ∀ f ∈ fs, f.Ok
theorem Stk.step {P : List Nd} {o : List Nat} {fs : List Fm} {x : Nd} {s : Nat} (h : Stk P o fs) (hs : stepB o x = some s) : ∃ gs, Stk (P ++ [x]) (o ++ [s]) gs := by
 obtain ⟨h1, h2, h3, h4⟩ := h
 have hlen : (flatR fs).length = P.length := by rw [← h1, List.length_map]
 obtain ⟨hf, _⟩ := stepB_cases hs
 have hst : startN o x = some s := by unfold stepB at hs; rw [if_pos hf] at hs; exact hs
 have hmap : (P ++ [x]).map bareN = flatR fs ++ [bareN x] := by rw [List.map_append, h1]; rfl
 have hol : (o ++ [s]).length = (P ++ [x]).length := by rw [List.length_append, List.length_append, h2]; rfl
 rcases fitsN_kinds hf with hk | hk | hk | hk
 · -- a literal
   have hs2 := stepB_leaf (o := o) hf (.inl hk)
   rw [hs2] at hs; injection hs with hs; subst hs
   obtain ⟨k, a, b, n, t, u, p⟩ := x
   have hk' : k = 1 := hk
   subst hk'
   unfold fitsN at hf
   rw [if_pos rfl] at hf
   simp only [Bool.and_eq_true, decide_eq_true_eq] at hf
   obtain ⟨⟨⟨⟨rfl, rfl⟩, rfl⟩, g1⟩, g2⟩ := hf
   have hsh : (Fm.lit t u).nds.map (shiftN (flatR fs).length) = [bareN ⟨1, 0, 0, 0, t, u, p⟩] := by
    show [shiftN _ _] = _
    rw [shiftN_leaf rfl rfl]; rfl
   refine ⟨.lit t u :: fs, ?_, hol, ⟨?_, h3.snoc _ (by omega)⟩, fun f hf => ?_⟩
   · rw [hmap]; show _ = flatR fs ++ _; rw [hsh]
   · rw [flat_len]
     show (o ++ [o.length]).getD ((flatR fs).length + 1 - 1) 0 = _
     rw [Nat.add_sub_cancel, hlen, ← h2, getD_snoc_eq]
   · rcases List.mem_cons.1 hf with rfl | hf
     · exact ⟨g1, g2⟩
     · exact h4 f hf
 · -- a name
   have hs2 := stepB_leaf (o := o) hf (.inr hk)
   rw [hs2] at hs; injection hs with hs; subst hs
   obtain ⟨k, a, b, n, t, u, p⟩ := x
   have hk' : k = 2 := hk
   subst hk'
   unfold fitsN at hf
   rw [if_neg (by show ¬ (2 : Int) = 1; decide), if_pos rfl] at hf
   simp only [Bool.and_eq_true, decide_eq_true_eq] at hf
   obtain ⟨⟨⟨⟨rfl, rfl⟩, rfl⟩, g1⟩, g2⟩ := hf
   have hu : u = ⟨#[]⟩ := by
    have h0 : u.data.size = 0 := g1
    have h9 : u.data = #[] := Array.eq_empty_of_size_eq_zero h0
    cases u; exact congrArg ByteArray.mk h9
   subst hu
   have hsh : (Fm.ref t).nds.map (shiftN (flatR fs).length) = [bareN ⟨2, 0, 0, 0, t, ⟨#[]⟩, p⟩] := by
    show [shiftN _ _] = _
    rw [shiftN_leaf rfl rfl]; rfl
   refine ⟨.ref t :: fs, ?_, hol, ⟨?_, h3.snoc _ (by omega)⟩, fun f hf => ?_⟩
   · rw [hmap]; show _ = flatR fs ++ _; rw [hsh]
   · rw [flat_len]
     show (o ++ [o.length]).getD ((flatR fs).length + 1 - 1) 0 = _
     rw [Nat.add_sub_cancel, hlen, ← h2, getD_snoc_eq]
   · rcases List.mem_cons.1 hf with rfl | hf
     · exact g2
     · exact h4 f hf
 · -- two children
   have h36 := twoK_iff.1 hk
   unfold startN at hst
   rw [if_neg (by omega), if_neg (by omega)] at hst
   cases hb : endN o x.b o.length with
   | none => rw [hb] at hst; cases hst
   | some sb =>
    rw [hb] at hst
    dsimp only at hst
    obtain ⟨j, e1, e2, e3⟩ := endN_some hb
    obtain ⟨i, e4, e5, e6⟩ := endN_some hst
    obtain ⟨k, a, b, n, t, u, p⟩ := x
    dsimp only at e1 e4
    have hk2 : twoK k = true := hk
    unfold fitsN at hf
    rw [if_neg (by show ¬ k = 1; have : 3 ≤ k := h36.1; omega), if_neg (by show ¬ k = 2; have : 3 ≤ k := h36.1; omega), if_pos hk] at hf
    simp only [Bool.and_eq_true, decide_eq_true_eq] at hf
    obtain ⟨⟨rfl, g1⟩, g2⟩ := hf
    have ht : t = ⟨#[]⟩ := by cases t; exact congrArg ByteArray.mk (Array.eq_empty_of_size_eq_zero g1)
    have hu : u = ⟨#[]⟩ := by cases u; exact congrArg ByteArray.mk (Array.eq_empty_of_size_eq_zero g2)
    subst ht hu
    cases fs with
    | nil => have h9 : P.length = 0 := by rw [← hlen]; rfl
             omega
    | cons f r =>
     obtain ⟨c1, c2⟩ := h3
     have hfl := flat_len f r
     have hj : (flatR (f :: r)).length - 1 = j := by omega
     rw [hj, ← e3] at c1
     cases r with
     | nil => have h9 : (flatR []).length = 0 := rfl
              omega
     | cons g r =>
      obtain ⟨c3, c4⟩ := c2
      have hgl := flat_len g r
      have hi : (flatR (g :: r)).length - 1 = i := by omega
      rw [hi, ← e6] at c3
      have hfp := f.pos
      have hgp := g.pos
      have hnode : bareN ⟨k, a, b, 0, ⟨#[]⟩, ⟨#[]⟩, p⟩ = shiftN (flatR r).length ⟨k, (g.nds.length : Int) - 1, (g.nds.length : Int) + (f.nds.length : Int) - 1, 0, ⟨#[]⟩, ⟨#[]⟩, 0⟩ := by
       rw [shiftN_two hk2]
       unfold bareN
       simp only [Nd.mk.injEq, true_and, and_true]
       rw [g.len, f.len]
       constructor <;> omega
      refine ⟨.two k g f :: r, ?_, hol, ⟨?_, ?_⟩, fun y hy => ?_⟩
      · rw [hmap, hnode]
        show (flatR r ++ g.nds.map _) ++ f.nds.map _ ++ _ = flatR r ++ (joinN k g.nds f.nds 0).map _
        unfold joinN
        rw [List.map_append, List.map_append, List.map_map, List.append_assoc, List.append_assoc, List.append_assoc]
        congr 2
        congr 1
        · refine List.map_congr_left fun y _ => ?_
          show _ = shiftN _ (shiftN _ y)
          rw [shift_shift, hgl, g.len, Nat.add_comm]
      · have e9 : (flatR (.two k g f :: r)).length - 1 = o.length := by rw [flat_len]; show (flatR r).length + (g.size + f.size + 1) - 1 = _; omega
        rw [e9, getD_snoc_eq]; omega
      · exact c4.snoc s (by omega)
      · rcases List.mem_cons.1 hy with rfl | hy
        · exact ⟨hk2, h4 g (by simp), h4 f (by simp)⟩
        · exact h4 y (by simp [hy])
 · -- one child
   have hk1 : oneK x.k = true := oneK_iff.2 hk
   unfold startN at hst
   rw [if_neg (by omega), if_pos hk] at hst
   obtain ⟨j, e1, e2, e3⟩ := endN_some hst
   cases fs with
   | nil => have h9 : P.length = 0 := by rw [← hlen]; rfl
            omega
   | cons f r =>
    obtain ⟨c1, c2⟩ := h3
    have hfl := flat_len f r
    have hfp := f.pos
    have hj : (flatR (f :: r)).length - 1 = j := by omega
    rw [hj, ← e3] at c1
    obtain ⟨k, a, b, n, t, u, p⟩ := x
    dsimp only at e1 hk hk1
    have fin : ∀ (g : Fm), g.nds = overN k n f.nds 0 → g.size = f.size + 1 → g.Ok → bareN ⟨k, a, b, n, t, u, p⟩ = ⟨k, a, 0, n, ⟨#[]⟩, ⟨#[]⟩, 0⟩ → ∃ gs, Stk (P ++ [⟨k, a, b, n, t, u, p⟩]) (o ++ [s]) gs := by
     intro g hg hsz hok hx
     have hnode : (⟨k, a, 0, n, ⟨#[]⟩, ⟨#[]⟩, 0⟩ : Nd) = shiftN (flatR r).length ⟨k, (f.nds.length : Int) - 1, 0, n, ⟨#[]⟩, ⟨#[]⟩, 0⟩ := by
      rw [shiftN_one hk1]
      simp only [Nd.mk.injEq, true_and, and_true]
      rw [f.len]; omega
     refine ⟨g :: r, ?_, hol, ⟨?_, c2.snoc s (by omega)⟩, fun y hy => ?_⟩
     · rw [hmap, hx, hnode]
       show (flatR r ++ f.nds.map _) ++ _ = flatR r ++ g.nds.map _
       rw [hg]
       unfold overN
       rw [List.map_append, List.append_assoc]; rfl
     · have e9 : (flatR (g :: r)).length - 1 = o.length := by rw [flat_len, hsz]; omega
       rw [e9, getD_snoc_eq]; omega
     · rcases List.mem_cons.1 hy with rfl | hy
       · exact hok
       · exact h4 y (by simp [hy])
    unfold fitsN at hf
    rcases hk with rfl | rfl
    · rw [if_neg (by show ¬ (7 : Int) = 1; decide), if_neg (by show ¬ (7 : Int) = 2; decide), if_neg (by show ¬ twoK 7 = true; decide), if_pos rfl] at hf
      simp only [Bool.and_eq_true, decide_eq_true_eq] at hf
      obtain ⟨⟨⟨rfl, rfl⟩, g1⟩, g2⟩ := hf
      have ht : t = ⟨#[]⟩ := by cases t; exact congrArg ByteArray.mk (Array.eq_empty_of_size_eq_zero g1)
      have hu : u = ⟨#[]⟩ := by cases u; exact congrArg ByteArray.mk (Array.eq_empty_of_size_eq_zero g2)
      subst ht hu
      exact fin (.neg f) rfl rfl (h4 f (by simp)) rfl
    · rw [if_neg (by show ¬ (8 : Int) = 1; decide), if_neg (by show ¬ (8 : Int) = 2; decide), if_neg (by show ¬ twoK 8 = true; decide), if_neg (by show ¬ (8 : Int) = 7; decide), if_pos rfl] at hf
      simp only [Bool.and_eq_true, decide_eq_true_eq] at hf
      obtain ⟨⟨⟨⟨rfl, g1⟩, g2⟩, g3⟩, g4⟩ := hf
      have ht : t = ⟨#[]⟩ := by cases t; exact congrArg ByteArray.mk (Array.eq_empty_of_size_eq_zero g1)
      have hu : u = ⟨#[]⟩ := by cases u; exact congrArg ByteArray.mk (Array.eq_empty_of_size_eq_zero g2)
      subst ht hu
      exact fin (.pow n f) rfl rfl ⟨g3, g4, h4 f (by simp)⟩ rfl
theorem Stk.all {us : List Nd} : ∀ {P : List Nd} {o : List Nat} {fs : List Fm} {q : List Nat}, Stk P o fs → begF (some o) us = some q → ∃ gs, Stk (P ++ us) q gs := by
 induction us with
 | nil => intro P o fs q h hb; injection hb with hb; subst hb; exact ⟨fs, by rw [List.append_nil]; exact h⟩
 | cons x r ih =>
  intro P o fs q h hb
  obtain ⟨s, h1, h2⟩ := begF_cons hb
  obtain ⟨gs, h3⟩ := h.step h1
  obtain ⟨hs, h4⟩ := ih h3 h2
  exact ⟨hs, by rw [List.append_assoc] at h4; exact h4⟩
end Go.Proofs.YtheaepceghnkpaaDoor

/- What the reader of package parse does with its state, as functions: tokens left, fault, nodes, how many were made, how deep. No condition. -/
namespace Go.Proofs.YtheaepceghnkpaaDoor
open Go.RowKit Limb
set_option linter.unusedVariables false
structure St where
 l : List Tk
 E : Int
 P : Int
 ts : List Nd
 mad : Nat
 op : Nat
def pkL (l : List Tk) : Tk := l.headD (0, [], 0)
abbrev pkS (st : St) : Tk := pkL st.l
def failS (e p : Int) (st : St) : St := if st.E = 0 then { st with l := [], E := e, P := p } else st
def refS (en : Nat) (st : St) : St := failS 12 (hereT en st.l) st
def rdS (st : St) : St := { st with l := st.l.tail }
def needS (en : Nat) (b : Bool) (st : St) : St := if b = true then st else refS en st
def sgnS (en : Nat) (tx : List Nat) (st : St) : St := rdS (needS en (nextT 3 tx st.l) st)
def takP (en kd : Nat) (st : St) : St := needS en (decide ((pkS st).1 = kd)) st
def takS (en kd : Nat) (st : St) : St := rdS (takP en kd st)
def takX (en kd : Nat) (st : St) : List Nat := (pkS (takP en kd st)).2.1
def namP (en : Nat) (st : St) : St := needS en (isNam (pkS st).2.1) st
def namS (en : Nat) (st : St) : St := takS en 1 (namP en st)
def namX (en : Nat) (st : St) : List Nat := takX en 1 (namP en st)
def untS (en : Nat) (st : St) : St := if (pkS st).1 = 4 then takS en 4 st else st
def untX (en : Nat) (st : St) : List Nat := if (pkS st).1 = 4 then takX en 4 st else []
def smlV (k : Nat) (st : St) : Option Nat := if (pkS st).1 = 2 then smallT (pkS st).2.1 k else none
def smlP (en k most : Nat) (st : St) : St := match smlV k st with
 | none => refS en st
 | some v => if most < v then failS 2 (pkS st).2.2 st else st
def smlS (en k most : Nat) (st : St) : St := rdS (smlP en k most st)
def lastS (st : St) : Int := (st.ts.length : Int) - 1
def nodP (L : Lim) (p : Int) (st : St) : St := if st.mad = L.nodes then failS 2 p st else st
def addS (x : Nd) (st : St) : St := { st with mad := st.mad + 1, ts := st.ts ++ [x] }
def nodS (L : Lim) (x : Nd) (st : St) : St := addS x (nodP L x.p st)
def opnP (L : Lim) (st : St) : St := if st.op = L.deep then failS 2 (pkS st).2.2 st else st
def incS (st : St) : St := { st with op := st.op + 1 }
def opnS (L : Lim) (st : St) : St := rdS (incS (opnP L st))
def opnX (L : Lim) (st : St) : Tk := pkS (opnP L st)
def shtS (st : St) : St := { st with op := st.op - 1 }
def joiN (tx : List Nat) : Int := if tx = [43] then 3 else if tx = [45] then 4 else if tx = [42] then 5 else 6
def powM (L : Lim) (en : Nat) (sg : Bool) (a : Int) (p : Int) (st : St) : St :=
 nodS L ⟨8, a, 0, (if sg = true then -((smlV 3 st).getD 0 : Int) else ((smlV 3 st).getD 0 : Int)), ⟨#[]⟩, ⟨#[]⟩, p⟩ (smlS en 3 L.power st)
def powS (L : Lim) (en : Nat) (st : St) : St :=
 if nextT 3 [45] (rdS st).l = true then powM L en true (lastS st) (pkS st).2.2 (rdS (rdS st)) else powM L en false (lastS st) (pkS st).2.2 (rdS st)
def atmS (L : Lim) (en : Nat) (f : St → St) (st : St) : St :=
 if (pkS st).1 = 2 then nodS L ⟨1, 0, 0, 0, strOf (pkS st).2.1, strOf (untX en (rdS st)), (pkS st).2.2⟩ (untS en (rdS st))
 else if nextT 3 [40] st.l = true then shtS (sgnS en [41] (f (opnS L st)))
 else nodS L ⟨2, 0, 0, 0, strOf (namX en st), ⟨#[]⟩, (pkS st).2.2⟩ (namS en st)
def joiK (L : Lim) (f : St → St) (st : St) : St :=
 nodS L ⟨joiN (pkS st).2.1, lastS st, lastS (f (rdS st)), 0, ⟨#[]⟩, ⟨#[]⟩, (pkS st).2.2⟩ (f (rdS st))
def addB (l : List Tk) : Bool := nextT 3 [43] l || nextT 3 [45] l
def mulB (l : List Tk) : Bool := nextT 3 [42] l || nextT 3 [47] l
def lopK (L : Lim) (f : St → St) (ob : List Tk → Bool) : Nat → St → St
 | 0, st => st
 | g + 1, st => if ob st.l = true then lopK L f ob g (joiK L f st) else st
def rowK (L : Lim) (f : St → St) (ob : List Tk → Bool) (st : St) : St := lopK L f ob (f st).l.length (f st)
def trmK (L : Lim) (f : St → St) : St → St := rowK L f mulB
def frmK (L : Lim) (f : St → St) : St → St := rowK L (trmK L f) addB
def facS' (L : Lim) (en : Nat) (f : St → St) (st : St) : St :=
 if nextT 3 [45] st.l = true then nodS L ⟨7, lastS (f (opnS L st)), 0, 0, ⟨#[]⟩, ⟨#[]⟩, (opnX L st).2.2⟩ (shtS (f (opnS L st)))
 else if nextT 3 [94] (atmS L en (frmK L f) st).l = true then powS L en (atmS L en (frmK L f) st) else atmS L en (frmK L f) st
def facK (L : Lim) (en : Nat) : Nat → St → St
 | 0, st => st
 | k + 1, st => facS' L en (facK L en k) st
/-! ### what is made, what is left -/
def mu (l : List Tk) : Nat := l.length + (if l = [] then 0 else 1)
theorem mu_nil : mu [] = 0 := rfl
theorem mu_cons (t : Tk) (l : List Tk) : mu (t :: l) = l.length + 2 := by simp [mu]
theorem mu_le {a b : List Tk} (h : a.length ≤ b.length) : mu a ≤ mu b := by
 cases a with
 | nil => rw [mu_nil]; omega
 | cons t r =>
  cases b with
  | nil => simp at h
  | cons u s => simp [mu_cons] at h ⊢; omega
theorem mu_tail {l : List Tk} (h : l ≠ []) : mu l.tail + 1 ≤ mu l := by
 cases l with
 | nil => exact absurd rfl h
 | cons t r =>
  rw [mu_cons, List.tail_cons]
  cases r with
  | nil => simp [mu]
  | cons u s => simp [mu_cons]
structure Cn (c : Nat) (st s : St) : Prop where
 len : s.l.length ≤ st.l.length
 cnt : s.ts.length + mu s.l ≤ st.ts.length + mu st.l + c
 mad : s.mad + st.ts.length = st.mad + s.ts.length
 op : s.op = st.op
theorem Cn.refl (st : St) : Cn 0 st st := ⟨Nat.le_refl _, by omega, by omega, rfl⟩
theorem Cn.trans {c d : Nat} {a b e : St} (h : Cn c a b) (k : Cn d b e) : Cn (c + d) a e := ⟨by have := h.len; have := k.len; omega, by have := h.cnt; have := k.cnt; omega, by have := h.mad; have := k.mad; omega, k.op.trans h.op⟩
theorem Cn.mono {c d : Nat} {a b : St} (h : Cn c a b) (k : c ≤ d) : Cn d a b := ⟨h.len, by have := h.cnt; omega, h.mad, h.op⟩
theorem fail_cn (e p : Int) (st : St) : Cn 0 st (failS e p st) := by
 unfold failS
 split
 · exact ⟨by simp, by simp [mu_nil], rfl, rfl⟩
 · exact Cn.refl _
theorem need_cn (en : Nat) (b : Bool) (st : St) : Cn 0 st (needS en b st) := by
 unfold needS
 split
 · exact Cn.refl _
 · exact fail_cn _ _ _
theorem rd_cn (st : St) : Cn 0 st (rdS st) := ⟨by simp [rdS], by have := mu_le (a := st.l.tail) (b := st.l) (by simp); show st.ts.length + mu st.l.tail ≤ _; omega, rfl, rfl⟩
theorem sgn_cn (en : Nat) (tx : List Nat) (st : St) : Cn 0 st (sgnS en tx st) := (need_cn _ _ _).trans (rd_cn _)
theorem tak_cn (en kd : Nat) (st : St) : Cn 0 st (takS en kd st) := (need_cn _ _ _).trans (rd_cn _)
theorem nam_cn (en : Nat) (st : St) : Cn 0 st (namS en st) := (need_cn _ _ _).trans (tak_cn _ _ _)
theorem unt_cn (en : Nat) (st : St) : Cn 0 st (untS en st) := by
 unfold untS
 split
 · exact tak_cn _ _ _
 · exact Cn.refl _
theorem smlP_cn (en k most : Nat) (st : St) : Cn 0 st (smlP en k most st) := by
 unfold smlP
 split
 · exact fail_cn _ _ _
 · split
   · exact fail_cn _ _ _
   · exact Cn.refl _
theorem sml_cn (en k most : Nat) (st : St) : Cn 0 st (smlS en k most st) := (smlP_cn _ _ _ _).trans (rd_cn _)
theorem nodP_cn (L : Lim) (p : Int) (st : St) : Cn 0 st (nodP L p st) := by
 unfold nodP
 split
 · exact fail_cn _ _ _
 · exact Cn.refl _
theorem nod_cn (L : Lim) (x : Nd) (st : St) : Cn 1 st (nodS L x st) := by
 have h := nodP_cn L x.p st
 have h1 := h.len
 have h2 := h.cnt
 have h3 := h.mad
 refine ⟨h1, ?_, ?_, h.op⟩
 · show ((nodP L x.p st).ts ++ [x]).length + mu (nodP L x.p st).l ≤ _
   rw [List.length_append, List.length_singleton]; omega
 · show (nodP L x.p st).mad + 1 + _ = _ + ((nodP L x.p st).ts ++ [x]).length
   rw [List.length_append, List.length_singleton]; omega
structure Cr (st s : St) : Prop where
 len : s.l.length + 1 ≤ st.l.length
 cnt : s.ts.length + mu s.l + 1 ≤ st.ts.length + mu st.l
 fin : s.l = [] → s.ts.length + 2 ≤ st.ts.length + mu st.l
 mad : s.mad + st.ts.length = st.mad + s.ts.length
 op : s.op = st.op
theorem next_ne {kd : Nat} {tx : List Nat} {l : List Tk} (h : nextT kd tx l = true) : l ≠ [] := by rintro rfl; cases h
theorem mu_two {l : List Tk} (h : l ≠ []) : 2 ≤ mu l := by have := List.length_pos_iff.2 h; unfold mu; rw [if_neg h]; omega
theorem rd_cr {st : St} (h : st.l ≠ []) : Cr st (rdS st) := by
 have := List.length_pos_iff.2 h
 exact ⟨by simp [rdS]; omega, by have := mu_tail h; show st.ts.length + mu st.l.tail + 1 ≤ _; omega, fun _ => by have := mu_two h; show st.ts.length + 2 ≤ _; omega, rfl, rfl⟩
theorem Cr.to {a b : St} (h : Cr a b) : Cn 0 a b := ⟨by have := h.len; omega, by have := h.cnt; omega, h.mad, h.op⟩
structure Co (st s : St) : Prop where
 len : s.l.length + 1 ≤ st.l.length
 cnt : s.ts.length + mu s.l + 1 ≤ st.ts.length + mu st.l
 fin : s.l = [] → s.ts.length + 2 ≤ st.ts.length + mu st.l
 mad : s.mad + st.ts.length = st.mad + s.ts.length
theorem Cr.co {a b : St} (h : Cr a b) : Co a b := ⟨h.len, h.cnt, h.fin, h.mad⟩
theorem opn_co (L : Lim) {st : St} (h : st.l ≠ []) : Co st (opnS L st) ∧ (opnS L st).op = st.op + 1 := by
 unfold opnS opnP failS
 have h2 := mu_two h
 have h3 := List.length_pos_iff.2 h
 have h4 := rd_cr h
 split
 · split
   · exact ⟨⟨by simp [rdS, incS]; omega, by simp [rdS, incS, mu_nil]; omega, fun _ => by simp [rdS, incS]; omega, rfl⟩, rfl⟩
   · exact ⟨⟨h4.len, h4.cnt, h4.fin, h4.mad⟩, rfl⟩
 · exact ⟨⟨h4.len, h4.cnt, h4.fin, h4.mad⟩, rfl⟩
def Good1 (f : St → St) : Prop := ∀ st, Cn (if st.l = [] then 1 else 0) st (f st)
theorem co_step {f : St → St} (hf : Good1 f) {st s : St} (h : Co st s) : (f s).l.length + 1 ≤ st.l.length ∧ (f s).ts.length + mu (f s).l + 1 ≤ st.ts.length + mu st.l ∧ (f s).mad + st.ts.length = st.mad + (f s).ts.length ∧ (f s).op = s.op := by
 have k := hf s
 have h1 := h.len
 have h2 := h.cnt
 have h3 := h.mad
 have h5 := h.fin
 have k1 := k.len
 have k2 := k.cnt
 have k3 := k.mad
 refine ⟨by omega, ?_, by omega, k.op⟩
 by_cases e : s.l = []
 · rw [if_pos e] at k2
   have := h5 e
   rw [e, mu_nil] at k2
   omega
 · rw [if_neg e] at k2; omega
theorem node_step {f : St → St} (hf : Good1 f) (L : Lim) (x : Nd) {st s s' : St} (h : Co st s) (h1 : s'.l = (f s).l) (h2 : s'.ts = (f s).ts) (h3 : s'.mad = (f s).mad) (h4 : s'.op = st.op) : Cn 0 st (nodS L x s') ∧ (nodS L x s').l.length < st.l.length := by
 have k := co_step hf h
 have n := nod_cn L x s'
 have n1 := n.len
 have n2 := n.cnt
 have n3 := n.mad
 rw [h1] at n1 n2
 rw [h2] at n2 n3
 rw [h3] at n3
 exact ⟨⟨by omega, by omega, by omega, n.op.trans h4⟩, by omega⟩
theorem joi_cn {f : St → St} (hf : Good1 f) (L : Lim) {st : St} (h : st.l ≠ []) : Cn 0 st (joiK L f st) ∧ (joiK L f st).l.length < st.l.length :=
 node_step hf L _ (rd_cr h).co rfl rfl rfl (hf (rdS st)).op
theorem ob_ne {ob : List Tk → Bool} (ho : ob = addB ∨ ob = mulB) {l : List Tk} (h : ob l = true) : l ≠ [] := by
 rintro rfl
 rcases ho with rfl | rfl <;> cases h
theorem lop_cn {f : St → St} (hf : Good1 f) (L : Lim) {ob : List Tk → Bool} (ho : ob = addB ∨ ob = mulB) : ∀ (g : Nat) (st : St), Cn 0 st (lopK L f ob g st)
 | 0, st => Cn.refl st
 | g + 1, st => by
  unfold lopK
  split
  · rename_i h
    exact (joi_cn hf L (ob_ne ho h)).1.trans (lop_cn hf L ho g _)
  · exact Cn.refl st
theorem row_good {f : St → St} (hf : Good1 f) (L : Lim) {ob : List Tk → Bool} (ho : ob = addB ∨ ob = mulB) : Good1 (rowK L f ob) := fun st => by
 have := (hf st).trans (lop_cn hf L ho (f st).l.length (f st))
 exact this.mono (by omega)
theorem trm_good {f : St → St} (hf : Good1 f) (L : Lim) : Good1 (trmK L f) := row_good hf L (.inr rfl)
theorem frm_good {f : St → St} (hf : Good1 f) (L : Lim) : Good1 (frmK L f) := row_good (trm_good hf L) L (.inl rfl)
theorem lop_len {f : St → St} (hf : Good1 f) (L : Lim) {ob : List Tk → Bool} (ho : ob = addB ∨ ob = mulB) : ∀ (g : Nat) (st : St), st.l.length ≤ g → lopK L f ob g st = lopK L f ob st.l.length st
 | 0, st, h => by rw [Nat.le_zero.1 h]
 | g + 1, st, h => by
  cases e : st.l.length with
  | zero =>
   have hn : st.l = [] := List.length_eq_zero_iff.1 e
   unfold lopK
   rw [if_neg (fun hh => ob_ne ho hh hn)]
  | succ m =>
   show (if ob st.l = true then lopK L f ob g (joiK L f st) else st) = (if ob st.l = true then lopK L f ob m (joiK L f st) else st)
   split
   · rename_i hh
     have := (joi_cn hf L (ob_ne ho hh)).2
     rw [lop_len hf L ho g _ (by omega), lop_len hf L ho m _ (by omega)]
   · rfl
theorem lop_step {f : St → St} (hf : Good1 f) (L : Lim) {ob : List Tk → Bool} (ho : ob = addB ∨ ob = mulB) {st : St} (h : ob st.l = true) : lopK L f ob st.l.length st = lopK L f ob (joiK L f st).l.length (joiK L f st) := by
 have h1 := List.length_pos_iff.2 (ob_ne ho h)
 have h2 := (joi_cn hf L (ob_ne ho h)).2
 cases e : st.l.length with
 | zero => omega
 | succ m =>
  show (if ob st.l = true then lopK L f ob m (joiK L f st) else st) = _
  rw [if_pos h, lop_len hf L ho m _ (by omega)]
theorem lop_stop (L : Lim) (f : St → St) {ob : List Tk → Bool} {st : St} (h : ob st.l = false) (g : Nat) : lopK L f ob g st = st := by
 cases g with
 | zero => rfl
 | succ g => unfold lopK; rw [h]; rfl
theorem pk_ne {st : St} {k : Nat} (hk : k ≠ 0) (h : (pkS st).1 = k) : st.l ≠ [] := by
 intro e
 rw [pkS, e] at h
 exact hk h.symm
theorem pow_cn (L : Lim) (en : Nat) {st : St} (h : st.l ≠ []) : Cn 0 st (powS L en st) := by
 have h0 := rd_cr h
 have key : ∀ (sg : Bool) (s : St), Cn 0 (rdS st) s → Cn 0 st (powM L en sg (lastS st) (pkS st).2.2 s) := fun sg s hs => by
  unfold powM
  have a := h0.len
  have b := h0.cnt
  have c := h0.mad
  generalize (⟨8, lastS st, 0, (if sg = true then -((smlV 3 s).getD 0 : Int) else ((smlV 3 s).getD 0 : Int)), ⟨#[]⟩, ⟨#[]⟩, (pkS st).2.2⟩ : Nd) = x
  have k := (hs.trans (sml_cn en 3 L.power s)).trans (nod_cn L x (smlS en 3 L.power s))
  have k1 := k.len
  have k2 := k.cnt
  have k3 := k.mad
  exact ⟨Nat.le_trans k1 (by omega), Nat.le_trans k2 (by omega), by omega, k.op.trans h0.op⟩
 unfold powS
 split
 · exact key true _ (rd_cn _)
 · exact key false _ (Cn.refl _)
theorem atm_good (L : Lim) (en : Nat) {f : St → St} (hf : Good1 f) : Good1 (atmS L en f) := fun st => by
 unfold atmS
 by_cases h : (pkS st).1 = 2
 · rw [if_pos h]
   have h0 := rd_cr (pk_ne (by decide) h)
   have a := h0.len
   have b := h0.cnt
   have c := h0.mad
   have k := (unt_cn en (rdS st)).trans (nod_cn L ⟨1, 0, 0, 0, strOf (pkS st).2.1, strOf (untX en (rdS st)), (pkS st).2.2⟩ (untS en (rdS st)))
   have k1 := k.len
   have k2 := k.cnt
   have k3 := k.mad
   exact ⟨Nat.le_trans k1 (by omega), Nat.le_trans k2 (by omega), by omega, k.op.trans h0.op⟩
 · rw [if_neg h]
   by_cases h : nextT 3 [40] st.l = true
   · rw [if_pos h]
     have ho := opn_co L (next_ne h)
     have k := co_step hf ho.1
     have s := sgn_cn en [41] (f (opnS L st))
     have s1 := s.len
     have s2 := s.cnt
     have s3 := s.mad
     have s4 := s.op
     refine ⟨?_, ?_, ?_, ?_⟩
     · show (sgnS en [41] (f (opnS L st))).l.length ≤ _; omega
     · show (sgnS en [41] (f (opnS L st))).ts.length + mu (sgnS en [41] (f (opnS L st))).l ≤ _; omega
     · show (sgnS en [41] (f (opnS L st))).mad + _ = st.mad + (sgnS en [41] (f (opnS L st))).ts.length; omega
     · show (sgnS en [41] (f (opnS L st))).op - 1 = st.op; have := k.2.2.2; have := ho.2; omega
   · rw [if_neg h]
     by_cases e : st.l = []
     · rw [if_pos e]
       exact (nam_cn en st).trans (nod_cn L _ _)
     · rw [if_neg e]
       have n : Cn 0 st (namS en st) := nam_cn en st
       have hx : (namS en st).ts = st.ts ∧ mu (namS en st).l + 1 ≤ mu st.l := by
        have hfail : ∀ s : St, s.ts = st.ts → s.l.length ≤ st.l.length → (rdS s).ts = st.ts ∧ mu (rdS s).l + 1 ≤ mu st.l := fun s h1 h2 => by
         refine ⟨h1, ?_⟩
         by_cases e2 : s.l = []
         · show mu s.l.tail + 1 ≤ _
           rw [e2]; have := mu_two e; show mu [] + 1 ≤ _; rw [mu_nil]; omega
         · have := mu_tail e2
           have := mu_le h2
           show mu s.l.tail + 1 ≤ _; omega
        have hneed : ∀ (b : Bool) (s : St), s.ts = st.ts → (needS en b s).ts = st.ts := fun b s hs => by
         unfold needS refS failS
         split
         · exact hs
         · split
           · exact hs
           · exact hs
        exact hfail _ (hneed _ _ (hneed _ _ rfl)) (Nat.le_trans (need_cn _ _ _).len (need_cn _ _ _).len)
       have k := nod_cn L ⟨2, 0, 0, 0, strOf (namX en st), ⟨#[]⟩, (pkS st).2.2⟩ (namS en st)
       have k1 := k.len
       have k2 := k.cnt
       have k3 := k.mad
       have n1 := n.len
       have n3 := n.mad
       refine ⟨Nat.le_trans k1 n1, Nat.le_trans k2 ?_, by omega, k.op.trans n.op⟩
       rw [hx.1]; omega
theorem fac_step (L : Lim) (en : Nat) {f : St → St} (hf : Good1 f) : Good1 (facS' L en f) := fun st => by
 unfold facS'
 by_cases h : nextT 3 [45] st.l = true
 · rw [if_pos h]
   have hn := next_ne h
   have ho := opn_co L hn
   rw [if_neg hn]
   refine (node_step hf L _ (s' := shtS (f (opnS L st))) ho.1 rfl rfl rfl ?_).1
   show (f (opnS L st)).op - 1 = st.op
   have := (hf (opnS L st)).op
   have := ho.2
   omega
 · have a := atm_good L en (frm_good hf L) st
   rw [if_neg h]
   by_cases h2 : nextT 3 [94] (atmS L en (frmK L f) st).l = true
   · rw [if_pos h2]
     exact a.trans (pow_cn L en (next_ne h2))
   · rw [if_neg h2]; exact a
theorem fac_good (L : Lim) (en : Nat) : ∀ k, Good1 (facK L en k)
 | 0 => fun st => (Cn.refl st).mono (by omega)
 | k + 1 => fac_step L en (fac_good L en k)
end Go.Proofs.YtheaepceghnkpaaDoor
