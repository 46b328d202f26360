/- Part 5 of the texts that the statements of this seat lean on: mathematics, and what functions answer, as contracts over memory; each part says its own conditions. -/
import Derived.Test.YtheaepceghnkpaaGreatDoorM4
/- What package keep's Decl and Script answer, as contracts over memory. Conditions: what is handed in reads in memory. -/
namespace Go.Proofs.YtheaepceghnkpaaGreatDoor
open Go.RowKit Limb
set_option linter.unusedVariables false
set_option maxHeartbeats 4000000 in
set_option maxRecDepth 100000 in
theorem kDecl_c {w : World} {k k2 pl pl2 at1 at2 : Int} {nm nm2 ot ot2 nu nu2 va va2 un un2 : ByteArray} {A B : Option Addr} {n c m d : Nat} {ts us : List Nd} (h1 : TreR w A n c ts) (h2 : TreR w B m d us) (v : Bool) (hv : (decide (k = k2) && decide (nm = nm2) && decide (ot = ot2) && decide (nu = nu2) && decide (va = va2) && decide (un = un2) && eqT ts us && decide (pl = pl2) && decide (at1 = at2)) = v) :
 Calls Tryz.prog 35 #[.agg (dcC k nm ot nu va un A n c pl at1), .agg (dcC k2 nm2 ot2 nu2 va2 un2 B m d pl2 at2)] w fun e w' => e = .returned (.bool v) ∧ Below w.heap.size w w' := by
 obtain ⟨tb, htb⟩ : ∃ b, eqT ts us = b := ⟨_, rfl⟩
 have HTb := Lib.hid htb
 rw [htb] at hv
 clear htb
 have bw := bel_refl w
 have h_rx := rowA_new w 45 (dcC k nm ot nu va un A n c pl at1)
 have bn := below_new w (.cells (dcC k nm ot nu va un A n c pl at1) 45)
 replace h1 := h1.below bn
 replace h2 := h2.below bn
 replace bw := below_two bw bn
 clear bn
 have h_ry := rowA_new (w.alloc (.cells (dcC k nm ot nu va un A n c pl at1) 45)) 45 (dcC k2 nm2 ot2 nu2 va2 un2 B m d pl2 at2)
 have bn := below_new (w.alloc (.cells (dcC k nm ot nu va un A n c pl at1) 45)) (.cells (dcC k2 nm2 ot2 nu2 va2 un2 B m d pl2 at2) 45)
 replace h1 := h1.below bn
 replace h2 := h2.below bn
 replace h_rx := h_rx.below bn
 replace bw := below_two bw bn
 clear bn
 simp only [World.size_alloc] at h_ry
 go_enter Tryz.func35, Tryz.ntmps35
 go_upto_region 1 with fail
 generalize (w.alloc (.cells (dcC k nm ot nu va un A n c pl at1) 45)).alloc (.cells (dcC k2 nm2 ot2 nu2 va2 un2 B m d pl2 at2) 45) = w1 at *
 obtain ⟨q_y, eg⟩ : ∃ g, g = w.heap.size + 1 := ⟨_, rfl⟩
 have hqy : Hid (w.heap.size ≤ q_y) := by show _ ≤ _; omega
 rw [← eg] at h_ry ⊢
 have e_y := eg
 clear eg
 obtain ⟨q_x, eg⟩ : ∃ g, g = w.heap.size := ⟨_, rfl⟩
 have hqx : Hid (w.heap.size ≤ q_x) := by show _ ≤ _; omega
 rw [← eg] at h_rx ⊢
 have e_x := eg
 clear eg
 have hne_x_y : Hid (q_x ≠ q_y) := by show _ ≠ _; omega
 clear e_x e_y
 have HX := Lib.hid h_rx
 have HY := Lib.hid h_ry
 have H1 := Lib.hid h1
 have H2 := Lib.hid h2
 have HB := Lib.hid bw
 clear h1 h2 bw hqx hqy hne_x_y
 have x0 := h_rx.cell (k := 0) (v := .int .i64 k) rfl
 have x1 := h_rx.cell (k := 1) (v := .string nm) rfl
 have x2 := h_rx.cell (k := 2) (v := .string ot) rfl
 have x3 := h_rx.cell (k := 3) (v := .string nu) rfl
 have x4 := h_rx.cell (k := 4) (v := .string va) rfl
 have x5 := h_rx.cell (k := 5) (v := .string un) rfl
 have x6 := h_rx.cell (k := 6) (v := .slice A n c) rfl
 have x7 := h_rx.cell (k := 7) (v := .int .i64 pl) rfl
 have x8 := h_rx.cell (k := 8) (v := .int .i64 at1) rfl
 have y0 := h_ry.cell (k := 0) (v := .int .i64 k2) rfl
 have y1 := h_ry.cell (k := 1) (v := .string nm2) rfl
 have y2 := h_ry.cell (k := 2) (v := .string ot2) rfl
 have y3 := h_ry.cell (k := 3) (v := .string nu2) rfl
 have y4 := h_ry.cell (k := 4) (v := .string va2) rfl
 have y5 := h_ry.cell (k := 5) (v := .string un2) rfl
 have y6 := h_ry.cell (k := 6) (v := .slice B m d) rfl
 have y7 := h_ry.cell (k := 7) (v := .int .i64 pl2) rfl
 have y8 := h_ry.cell (k := 8) (v := .int .i64 at2) rfl
 clear h_rx h_ry
 by_cases h0 : k = k2
 · subst h0
   by_cases h1 : nm = nm2
   · subst h1
     by_cases h2 : ot = ot2
     · subst h2
       by_cases h3 : nu = nu2
       · subst h3
         by_cases h4 : va = va2
         · subst h4
           by_cases h5 : un = un2
           · subst h5
             cases tb with
             | false =>
              obtain rfl : v = false := by rw [← hv]; simp
              clear hv
              go_wp2_with (go_at_call 13; (with_reducible refine (kTree_c H1.out H2.out _ HTb.out).mono ?_); rintro e wx ⟨rfl, bn⟩; have HB2 := Lib.hid (below_two HB.out bn); have hX := HX.out.below bn; have hY := HY.out.below bn; have x7 := hX.cell (k := 7) (v := .int .i64 pl) rfl; have x8 := hX.cell (k := 8) (v := .int .i64 at1) rfl; have y7 := hY.cell (k := 7) (v := .int .i64 pl2) rfl; have y8 := hY.cell (k := 8) (v := .int .i64 at2) rfl; clear hX hY bn)
              go_ret
              exact ⟨rfl, HB2.out⟩
             | true =>
              by_cases h7 : pl = pl2
              · subst h7
                by_cases h8 : at1 = at2
                · subst h8
                  obtain rfl : v = true := by rw [← hv]; simp
                  clear hv
                  go_wp2_with (go_at_call 13; (with_reducible refine (kTree_c H1.out H2.out _ HTb.out).mono ?_); rintro e wx ⟨rfl, bn⟩; have HB2 := Lib.hid (below_two HB.out bn); have hX := HX.out.below bn; have hY := HY.out.below bn; have x7 := hX.cell (k := 7) (v := .int .i64 pl) rfl; have x8 := hX.cell (k := 8) (v := .int .i64 at1) rfl; have y7 := hY.cell (k := 7) (v := .int .i64 pl) rfl; have y8 := hY.cell (k := 8) (v := .int .i64 at1) rfl; clear hX hY bn)
                  go_ret
                  exact ⟨rfl, HB2.out⟩
                · have e8 : (at1 == at2) = false := by rw [beq_eq_false_iff_ne]; exact h8
                  obtain rfl : v = false := by rw [← hv]; simp [h8]
                  clear hv
                  go_wp2_with (go_at_call 13; (with_reducible refine (kTree_c H1.out H2.out _ HTb.out).mono ?_); rintro e wx ⟨rfl, bn⟩; have HB2 := Lib.hid (below_two HB.out bn); have hX := HX.out.below bn; have hY := HY.out.below bn; have x7 := hX.cell (k := 7) (v := .int .i64 pl) rfl; have x8 := hX.cell (k := 8) (v := .int .i64 at1) rfl; have y7 := hY.cell (k := 7) (v := .int .i64 pl) rfl; have y8 := hY.cell (k := 8) (v := .int .i64 at2) rfl; clear hX hY bn)
                  go_ret
                  exact ⟨rfl, HB2.out⟩
              · have e7 : (pl == pl2) = false := by rw [beq_eq_false_iff_ne]; exact h7
                obtain rfl : v = false := by rw [← hv]; simp [h7]
                clear hv
                go_wp2_with (go_at_call 13; (with_reducible refine (kTree_c H1.out H2.out _ HTb.out).mono ?_); rintro e wx ⟨rfl, bn⟩; have HB2 := Lib.hid (below_two HB.out bn); have hX := HX.out.below bn; have hY := HY.out.below bn; have x7 := hX.cell (k := 7) (v := .int .i64 pl) rfl; have x8 := hX.cell (k := 8) (v := .int .i64 at1) rfl; have y7 := hY.cell (k := 7) (v := .int .i64 pl2) rfl; have y8 := hY.cell (k := 8) (v := .int .i64 at2) rfl; clear hX hY bn)
                go_ret
                exact ⟨rfl, HB2.out⟩
           · have e5 : (un.toList == un2.toList) = false := str_ne h5
             obtain rfl : v = false := by rw [← hv]; simp [h5]
             clear hv
             go_wp2_with fail
             go_ret
             exact ⟨rfl, HB.out⟩
         · have e4 : (va.toList == va2.toList) = false := str_ne h4
           obtain rfl : v = false := by rw [← hv]; simp [h4]
           clear hv
           go_wp2_with fail
           go_ret
           exact ⟨rfl, HB.out⟩
       · have e3 : (nu.toList == nu2.toList) = false := str_ne h3
         obtain rfl : v = false := by rw [← hv]; simp [h3]
         clear hv
         go_wp2_with fail
         go_ret
         exact ⟨rfl, HB.out⟩
     · have e2 : (ot.toList == ot2.toList) = false := str_ne h2
       obtain rfl : v = false := by rw [← hv]; simp [h2]
       clear hv
       go_wp2_with fail
       go_ret
       exact ⟨rfl, HB.out⟩
   · have e1 : (nm.toList == nm2.toList) = false := str_ne h1
     obtain rfl : v = false := by rw [← hv]; simp [h1]
     clear hv
     go_wp2_with fail
     go_ret
     exact ⟨rfl, HB.out⟩
 · have e0 : (k == k2) = false := by rw [beq_eq_false_iff_ne]; exact h0
   obtain rfl : v = false := by rw [← hv]; simp [h0]
   clear hv
   go_wp2_with fail
   go_ret
   exact ⟨rfl, HB.out⟩
set_option maxHeartbeats 4000000 in
set_option maxRecDepth 100000 in
theorem kScript_c {w : World} {A B : Option Addr} {n c m0 d : Nat} {ds es : List Dc} (h1 : DcR w A n c ds) (h2 : DcR w B m0 d es) (v : Bool) (hv : eqDs ds es = v) :
 Calls Tryz.prog 12 #[.slice A n c, .slice B m0 d] w fun e w' => e = .returned (.bool v) ∧ Below w.heap.size w w' := by
 have hn := h1.len
 have hn2 := h2.len
 have hc : n ≤ c ∧ c ≤ maxLen := by obtain ⟨_, _, _, a, b, _⟩ := h1; exact ⟨a, b⟩
 have hc2 : m0 ≤ d ∧ d ≤ maxLen := by obtain ⟨_, _, _, a, b, _⟩ := h2; exact ⟨a, b⟩
 obtain ⟨hc, hcm⟩ := hc
 obtain ⟨hc2, hcm2⟩ := hc2
 have H1 := Lib.hid h1
 have H2 := Lib.hid h2
 have HN1 := Lib.hid hn
 have HN2 := Lib.hid hn2
 have HV := Lib.hid hv
 clear h1 h2 hn hn2 hv
 have eq1 : maxLen = 9223372036854775807 := rfl
 by_cases hl : n = m0
 · subst hl
   go_enter Tryz.func12, Tryz.ntmps12
   go_wp2
   go_loopw [5] (fun i wr => ∃ k0 : Nat, i = .int .i64 (k0 : Int) ∧ k0 ≤ n ∧ Hid (eqDs (ds.take k0) (es.take k0) = true) ∧ Hid (Below w.heap.size w wr)) (fun i _ => n - (intOf i).toNat)
   case atStart => exact ⟨0, rfl, Nat.zero_le _, rfl, Below.refl _ _⟩
   case round =>
    obtain ⟨k0, rfl, hk, HP, HB⟩ := hrel
    by_cases hlt : k0 < n
    · skip
      obtain ⟨x, hx⟩ : ∃ x, ds[k0]? = some x := ⟨_, List.getElem?_eq_getElem (by rw [← HN1.out]; exact hlt)⟩
      obtain ⟨y, hy⟩ : ∃ y, es[k0]? = some y := ⟨_, List.getElem?_eq_getElem (by rw [← HN2.out]; exact hlt)⟩
      have HX := Lib.hid hx
      have HY := Lib.hid hy
      obtain ⟨g, og, A1, q1, c1, nm1, ot1, nu1, va1, un1, rfl, hg, hin, ht1, u1, u2, u3, u4, u5⟩ := (H1.out.below HB.out).at2 hx
      obtain ⟨g2, og2, A2, q2, c2, nm2, ot2, nu2, va2, un2, rfl, hg2, hin2, ht2, v1, v2, v3, v4, v5⟩ := (H2.out.below HB.out).at2 hy
      obtain ⟨eq, heq⟩ : ∃ b, eqD x y = b := ⟨_, rfl⟩
      have HEq := Lib.hid heq
      unfold eqD at heq
      rw [u1, u2, u3, u4, u5, v1, v2, v3, v4, v5] at heq
      have HQ := Lib.hid heq
      have HT1 := Lib.hid ht1
      have HT2 := Lib.hid ht2
      have HI_1 : Hid (InV wr g (og + k0 * 9) (dcC x.k nm1 ot1 nu1 va1 un1 A1 q1 c1 x.pl x.at')) := hin
      have HI_2 : Hid (InV wr g2 (og2 + k0 * 9) (dcC y.k nm2 ot2 nu2 va2 un2 A2 q2 c2 y.pl y.at')) := hin2
      have HG1 := Lib.hid hg
      have HG2 := Lib.hid hg2
      have HM_1 := Lib.hid (manyDc x.k nm1 ot1 nu1 va1 un1 A1 q1 c1 x.pl x.at')
      have HM_2 := Lib.hid (manyDc y.k nm2 ot2 nu2 va2 un2 A2 q2 c2 y.pl y.at')
      clear hx hy hin hin2 hg hg2 heq ht1 ht2 u1 u2 u3 u4 u5 v1 v2 v3 v4 v5
      go_wp2
      generalize wr = wS at *
      have g1 : (k0 : Int) < (n : Int) := by omega
      cases eq with
      | false =>
       have HV0 : Hid (v = false) := by show _ = _; rw [← HV.out]; exact eqDs_bad HX.out HY.out HEq.out
       refine region_freed 10 0 8 [17, 18, 19, 20, 21, 22, 23, 24, 25, 26] ?aF1 (fun wx => Below wS.heap.size wS wx) (fun k vv wx => match k with
        | 0 => vv = .slice (some ⟨g, og, none⟩) n c
        | 1 => vv = .int .i64 (k0 : Int)
        | 2 => vv = .pointer (some ⟨g, og + k0 * 9, none⟩)
        | 3 => vv = .agg (dcC x.k nm1 ot1 nu1 va1 un1 A1 q1 c1 x.pl x.at')
        | 4 => vv = .slice (some ⟨g2, og2, none⟩) n d
        | 5 => vv = .int .i64 (k0 : Int)
        | 6 => vv = .pointer (some ⟨g2, og2 + k0 * 9, none⟩)
        | 7 => vv = .agg (dcC y.k nm2 ot2 nu2 va2 un2 A2 q2 c2 y.pl y.at')
        | 8 => vv = .bool false
        | _ => vv = .bool true)
        (fun k => false) (by kernel_rfl) ?haF1 rfl (by kernel_rfl) (by kernel_rfl) (fun _ _ _ _ _ h => h) ?hSb1 ?hPb1 ?hS1 ?hop1 ?hfin1
       case haF1 =>
        intro vals
        simp only [fillAll, List.getElem?_cons_zero, List.getElem?_cons_succ, Act.put, List.setIfInBounds_toArray, List.set_cons_zero, List.set_cons_succ]
        exact rfl
       case hSb1 => exact fun wx w2 hb hS => below_two hS hb
       case hPb1 =>
        intro k v wa wb hb h
        match k, h with
        | 0, h => exact h
        | 1, h => exact h
        | 2, h => exact h
        | 3, h => exact h
        | 4, h => exact h
        | 5, h => exact h
        | 6, h => exact h
        | 7, h => exact h
        | 8, h => exact h
        | _ + 9, h => exact h
       case hS1 => exact (Below.refl _ _).drew
       case hop1 =>
        refine .cons (k := 0) (.plain rfl ?_) (.cons (k := 1) (.plain rfl ?_) (.cons (k := 2) (.plain rfl ?_) (.cons (k := 3) (.plain rfl ?_) (.cons (k := 4) (.plain rfl ?_) (.cons (k := 5) (.plain rfl ?_) (.cons (k := 6) (.plain rfl ?_) (.cons (k := 7) (.plain rfl ?_) (.cons (k := 8) (.plain rfl ?_) (.cons (k := 9) (.plain rfl ?_) (.nil))))))))))
        all_goals intro vals wr hS hd KC hK
        all_goals (show Oper.wp _ _ _ _ _ _; dsimp only)
        · go_simp
          refine hK _ _ rfl (Below.refl _ _) (by first | rfl | simp) (fun h => by cases h)
        · go_simp
          refine hK _ _ rfl (Below.refl _ _) (by first | rfl | simp) (fun h => by cases h)
        · have d0 : vals 0 = _ := hd 0 (by decide +kernel)
          have d1 : vals 1 = _ := hd 1 (by decide +kernel)
          rw [d0, d1]
          go_simp
          refine hK _ _ rfl (Below.refl _ _) (by first | rfl | simp) (fun h => by cases h)
        · have d2 : vals 2 = _ := hd 2 (by decide +kernel)
          rw [d2]
          refine wp_loadV 45 _ rfl _ _ rfl (dcC x.k nm1 ot1 nu1 va1 un1 A1 q1 c1 x.pl x.at') (Lib.hid HI_1.out.below HG1.out hS) (Lib.hid HM_1.out) ?_
          refine hK _ _ rfl (Below.refl _ _) (by first | rfl | simp) (fun h => by cases h)
        · go_simp
          refine hK _ _ rfl (Below.refl _ _) (by first | rfl | simp) (fun h => by cases h)
        · go_simp
          refine hK _ _ rfl (Below.refl _ _) (by first | rfl | simp) (fun h => by cases h)
        · have d4 : vals 4 = _ := hd 4 (by decide +kernel)
          have d5 : vals 5 = _ := hd 5 (by decide +kernel)
          rw [d4, d5]
          go_simp
          refine hK _ _ rfl (Below.refl _ _) (by first | rfl | simp) (fun h => by cases h)
        · have d6 : vals 6 = _ := hd 6 (by decide +kernel)
          rw [d6]
          refine wp_loadV 45 _ rfl _ _ rfl (dcC y.k nm2 ot2 nu2 va2 un2 A2 q2 c2 y.pl y.at') (Lib.hid HI_2.out.below HG2.out hS) (Lib.hid HM_2.out) ?_
          refine hK _ _ rfl (Below.refl _ _) (by first | rfl | simp) (fun h => by cases h)
        · have d3 : vals 3 = _ := hd 3 (by decide +kernel)
          have d7 : vals 7 = _ := hd 7 (by decide +kernel)
          rw [d3, d7]
          go_simp
          go_at_call 35
          with_reducible refine (kDecl_c (HT1.out.below hS) (HT2.out.below hS) false HQ.out).mono ?_
          rintro e w2 ⟨rfl, bn_r⟩
          refine hK _ _ rfl bn_r rfl (fun h => by cases h)
        · have d8 : vals 8 = _ := hd 8 (by decide +kernel)
          rw [d8]
          go_simp
          refine hK _ _ rfl (Below.refl _ _) (by first | rfl | simp) (fun h => by cases h)
       case hfin1 =>
        intro vals wr hS hP hne
        have ez_9 : vals 9 = _ := hP 9 (by decide)
        try dsimp only
        rw [ez_9]
        refine wpAny_done (by kernel_rfl) ?_ _
        have HB2 := Lib.hid (below_two HB.out hS)
        clear hS hP hne
        go_wp2
        go_ret
        exact ⟨by rw [HV0.out]; rfl, HB2.out⟩
      | true =>
       have HP2 : Hid (eqDs (ds.take (k0 + 1)) (es.take (k0 + 1)) = true) := eqDs_take HX.out HY.out HP.out HEq.out
       clear HP
       refine region_freed 10 0 8 [17, 18, 19, 20, 21, 22, 23, 24, 25, 26] ?aF2 (fun wx => Below wS.heap.size wS wx) (fun k vv wx => match k with
        | 0 => vv = .slice (some ⟨g, og, none⟩) n c
        | 1 => vv = .int .i64 (k0 : Int)
        | 2 => vv = .pointer (some ⟨g, og + k0 * 9, none⟩)
        | 3 => vv = .agg (dcC x.k nm1 ot1 nu1 va1 un1 A1 q1 c1 x.pl x.at')
        | 4 => vv = .slice (some ⟨g2, og2, none⟩) n d
        | 5 => vv = .int .i64 (k0 : Int)
        | 6 => vv = .pointer (some ⟨g2, og2 + k0 * 9, none⟩)
        | 7 => vv = .agg (dcC y.k nm2 ot2 nu2 va2 un2 A2 q2 c2 y.pl y.at')
        | 8 => vv = .bool true
        | _ => vv = .bool false)
        (fun k => false) (by kernel_rfl) ?haF2 rfl (by kernel_rfl) (by kernel_rfl) (fun _ _ _ _ _ h => h) ?hSb2 ?hPb2 ?hS2 ?hop2 ?hfin2
       case haF2 =>
        intro vals
        simp only [fillAll, List.getElem?_cons_zero, List.getElem?_cons_succ, Act.put, List.setIfInBounds_toArray, List.set_cons_zero, List.set_cons_succ]
        exact rfl
       case hSb2 => exact fun wx w2 hb hS => below_two hS hb
       case hPb2 =>
        intro k v wa wb hb h
        match k, h with
        | 0, h => exact h
        | 1, h => exact h
        | 2, h => exact h
        | 3, h => exact h
        | 4, h => exact h
        | 5, h => exact h
        | 6, h => exact h
        | 7, h => exact h
        | 8, h => exact h
        | _ + 9, h => exact h
       case hS2 => exact (Below.refl _ _).drew
       case hop2 =>
        refine .cons (k := 0) (.plain rfl ?_) (.cons (k := 1) (.plain rfl ?_) (.cons (k := 2) (.plain rfl ?_) (.cons (k := 3) (.plain rfl ?_) (.cons (k := 4) (.plain rfl ?_) (.cons (k := 5) (.plain rfl ?_) (.cons (k := 6) (.plain rfl ?_) (.cons (k := 7) (.plain rfl ?_) (.cons (k := 8) (.plain rfl ?_) (.cons (k := 9) (.plain rfl ?_) (.nil))))))))))
        all_goals intro vals wr hS hd KC hK
        all_goals (show Oper.wp _ _ _ _ _ _; dsimp only)
        · go_simp
          refine hK _ _ rfl (Below.refl _ _) (by first | rfl | simp) (fun h => by cases h)
        · go_simp
          refine hK _ _ rfl (Below.refl _ _) (by first | rfl | simp) (fun h => by cases h)
        · have d0 : vals 0 = _ := hd 0 (by decide +kernel)
          have d1 : vals 1 = _ := hd 1 (by decide +kernel)
          rw [d0, d1]
          go_simp
          refine hK _ _ rfl (Below.refl _ _) (by first | rfl | simp) (fun h => by cases h)
        · have d2 : vals 2 = _ := hd 2 (by decide +kernel)
          rw [d2]
          refine wp_loadV 45 _ rfl _ _ rfl (dcC x.k nm1 ot1 nu1 va1 un1 A1 q1 c1 x.pl x.at') (Lib.hid HI_1.out.below HG1.out hS) (Lib.hid HM_1.out) ?_
          refine hK _ _ rfl (Below.refl _ _) (by first | rfl | simp) (fun h => by cases h)
        · go_simp
          refine hK _ _ rfl (Below.refl _ _) (by first | rfl | simp) (fun h => by cases h)
        · go_simp
          refine hK _ _ rfl (Below.refl _ _) (by first | rfl | simp) (fun h => by cases h)
        · have d4 : vals 4 = _ := hd 4 (by decide +kernel)
          have d5 : vals 5 = _ := hd 5 (by decide +kernel)
          rw [d4, d5]
          go_simp
          refine hK _ _ rfl (Below.refl _ _) (by first | rfl | simp) (fun h => by cases h)
        · have d6 : vals 6 = _ := hd 6 (by decide +kernel)
          rw [d6]
          refine wp_loadV 45 _ rfl _ _ rfl (dcC y.k nm2 ot2 nu2 va2 un2 A2 q2 c2 y.pl y.at') (Lib.hid HI_2.out.below HG2.out hS) (Lib.hid HM_2.out) ?_
          refine hK _ _ rfl (Below.refl _ _) (by first | rfl | simp) (fun h => by cases h)
        · have d3 : vals 3 = _ := hd 3 (by decide +kernel)
          have d7 : vals 7 = _ := hd 7 (by decide +kernel)
          rw [d3, d7]
          go_simp
          go_at_call 35
          with_reducible refine (kDecl_c (HT1.out.below hS) (HT2.out.below hS) true HQ.out).mono ?_
          rintro e w2 ⟨rfl, bn_r⟩
          refine hK _ _ rfl bn_r rfl (fun h => by cases h)
        · have d8 : vals 8 = _ := hd 8 (by decide +kernel)
          rw [d8]
          go_simp
          refine hK _ _ rfl (Below.refl _ _) (by first | rfl | simp) (fun h => by cases h)
       case hfin2 =>
        intro vals wr hS hP hne
        have ez_9 : vals 9 = _ := hP 9 (by decide)
        try dsimp only
        rw [ez_9]
        refine wpAny_done (by kernel_rfl) ?_ _
        have HB2 := Lib.hid (below_two HB.out hS)
        clear hS hP hne
        go_wp2
        go_roundw
        case rel => exact ⟨k0 + 1, by go_num, hlt, HP2, HB2⟩
        case measure => simp [intOf]; omega
    · obtain rfl : n = k0 := by omega
      have HV1 : Hid (v = true) := by
       show _ = _
       rw [← HV.out]
       have h := HP.out
       rw [List.take_of_length_le (by rw [← HN1.out]; exact Nat.le_refl _), List.take_of_length_le (by rw [← HN2.out]; exact Nat.le_refl _)] at h
       exact h
      go_wp2
      go_ret
      exact ⟨by rw [HV1.out]; rfl, HB.out⟩
 · have HV0 : Hid (v = false) := by
    show _ = _
    rw [← HV.out]
    exact eqDs_no (by rw [← HN1.out, ← HN2.out]; exact hl)
   have e0 : ((n : Int) != (m0 : Int)) = true := by rw [bne_iff_ne]; omega
   go_enter Tryz.func12, Tryz.ntmps12
   go_wp2
   go_ret
   exact ⟨by rw [HV0.out]; rfl, Below.refl _ _⟩
end Go.Proofs.YtheaepceghnkpaaGreatDoor

/- What the reference of layer 16 answers of a num's text that may be, as a contract over memory. Condition: a text of at most 10^9 bytes that may be. -/
namespace Go.Proofs.YtheaepceghnkpaaGreatDoor
open Go.RowKit Limb
set_option linter.unusedVariables false
set_option maxHeartbeats 4000000 in
set_option maxRecDepth 100000 in
theorem rNum_c (s : ByteArray) (hs : s.size ≤ 1000000000) (w : World) (h : numG (bytesOf s) = true) :
 Calls Tryz.prog 38 #[.string s] w fun e w' => e = .returned (.bool true) ∧ w = w' := by
 have HL := Lib.hid (length_bytesOf s)
 rcases numG_cases h with ⟨r, hr, hh⟩ | ⟨c, r, hr, hc, hh⟩
 · skip
   obtain ⟨t, ht⟩ : ∃ t, s.extract 1 s.size = t := ⟨_, rfl⟩
   have htb : bytesOf t = r := by rw [← ht, bytesOf_extract, hr, List.drop_succ_cons, List.drop_zero]; exact List.take_of_length_le (by have := HL.out; rw [hr, List.length_cons] at this; omega)
   have HB : Hid (numH (bytesOf t) = true) := by show _ = _; rw [htb]; exact hh
   have HTL := Lib.hid (length_bytesOf t)
   have hs0 : 0 < s.size := by rw [← HL.out, hr]; simp
   have hd0 : (s[0]'hs0).toNat = 45 := by rw [Limb.byte_at s 0 hs0, hr]; rfl
   have hts : t.size ≤ 1000000000 := by have h1 := HTL.out; have h2 := HL.out; rw [htb] at h1; rw [hr, List.length_cons] at h2; omega
   have htl : ¬ s.toList = [] := by intro e; rw [ByteArray.toList_eq] at e; have h9 : s.data.toList.length = 0 := (by rw [e]; rfl); rw [Array.length_toList] at h9; have h8 : s.data.size = s.size := rfl; omega
   have hem : s.toList.isEmpty = false := List.isEmpty_eq_false_iff.2 htl
   have hem2 : (!s.toList.isEmpty) = true := by rw [hem]; rfl
   have hs1 : 1 ≤ s.size := hs0
   clear hh hr h htb
   go_enter Tryz.func38, Tryz.ntmps38
   go_upto_region 3 with fail
   clear ht hd0 hs0 hs1 htl hem hem2
   rcases numH_cases HB.out with hg | ⟨j, hj1, hj2, hj3, hj4, hj5⟩
   · skip
     have hno : ∀ i, i < t.size → lim (bytesOf t) i ≠ 47 := fun i hi => by
      have := good_bytes hg (i := i) (by rw [HTL.out]; exact hi) rfl
      rcases this with h | h | h | h <;> omega
     have HG := Lib.hid hg
     go_wp2
     go_loopw [3] (fun i wr => ∃ k : Nat, i = .int .i64 (k : Int) ∧ k ≤ t.size ∧ w = wr) (fun i _ => t.size - (intOf i).toNat)
     case atStart => exact ⟨0, rfl, Nat.zero_le _, rfl⟩
     case round =>
      obtain ⟨k, rfl, hk, rfl⟩ := hrel
      by_cases hlt : k < t.size
      · have hks := hlt
        obtain ⟨d, hd⟩ : ∃ d, (t[k]'hks).toNat = d := ⟨_, rfl⟩
        have hne : d ≠ 47 := by rw [← hd, Limb.byte_at t k hks]; exact hno k hlt
        have e1 : ((d : Int) == 47) = false := by rw [beq_eq_false_iff_ne]; omega
        clear hne
        go_wp2
        go_roundw
        case rel => exact ⟨k + 1, by go_num, by omega, by first | rfl | trivial⟩
        case measure => simp [intOf]; omega
      · obtain rfl : t.size = k := by omega
        clear hno
        go_wp2_with (go_at_call 66; (with_reducible refine (refLGood_c t (by omega) _ true HG.out).mono ?_); rintro e wx ⟨rfl, rfl⟩)
        go_ret
        exact ⟨rfl, rfl⟩
   · skip
     obtain ⟨U, hU⟩ : ∃ U, t.extract 0 j = U := ⟨_, rfl⟩
     obtain ⟨V, hV⟩ : ∃ V, t.extract (j + 1) t.size = V := ⟨_, rfl⟩
     have HUb : Hid (litGood (bytesOf U) = true) := by show _ = _; rw [← hU, bytesOf_extract]; simpa using hj3
     have HVb : Hid (litGood (bytesOf V) = true) := by show _ = _; rw [← hV, bytesOf_extract]; rw [List.take_of_length_le (by rw [List.length_drop, HTL.out]; omega)] ; exact hj4
     have hUs : U.size ≤ 1000000000 := by have h := (litGood_iff.1 HUb.out).2.1; rw [length_bytesOf] at h; omega
     have hVs : V.size ≤ 1000000000 := by have h := (litGood_iff.1 HVb.out).2.1; rw [length_bytesOf] at h; omega
     have hj := hj1
     rw [HTL.out] at hj
     have hno := hj5
     clear hj1 hj3 hj4 hj5
     go_wp2
     go_loopw [3] (fun i wr => ∃ k : Nat, i = .int .i64 (k : Int) ∧ k ≤ j ∧ w = wr) (fun i _ => t.size - (intOf i).toNat)
     case atStart => exact ⟨0, rfl, Nat.zero_le _, rfl⟩
     case round =>
      obtain ⟨k, rfl, hk, rfl⟩ := hrel
      by_cases hlt : k < j
      · have hks : k < t.size := by omega
        obtain ⟨d, hd⟩ : ∃ d, (t[k]'hks).toNat = d := ⟨_, rfl⟩
        have hne : d ≠ 47 := by rw [← hd, Limb.byte_at t k hks]; exact hno k hlt
        have e1 : ((d : Int) == 47) = false := by rw [beq_eq_false_iff_ne]; omega
        clear hne
        go_wp2
        go_roundw
        case rel => exact ⟨k + 1, by go_num, by omega, by first | rfl | trivial⟩
        case measure => simp [intOf]; omega
      · obtain rfl : j = k := by omega
        have hd : (t[j]'hj).toNat = 47 := by rw [Limb.byte_at t j hj]; exact hj2
        clear hno hj2
        go_wp2_with (first | (go_at_call 66; (with_reducible refine (refLGood_c U (by omega) _ true HUb.out).mono ?_); rintro e wx ⟨rfl, rfl⟩) | (go_at_call 66; (with_reducible refine (refLGood_c V (by omega) _ true HVb.out).mono ?_); rintro e wx ⟨rfl, rfl⟩))
        go_ret
        exact ⟨rfl, rfl⟩
 · skip
   have HB : Hid (numH (bytesOf s) = true) := hh
   have HTL := HL
   have hs0 : 0 < s.size := by rw [← HL.out, hr]; simp
   have hd0 : (s[0]'hs0).toNat = c := by rw [Limb.byte_at s 0 hs0, hr]; rfl
   have e0 : ((c : Int) == 45) = false := by rw [beq_eq_false_iff_ne]; omega
   have htl : ¬ s.toList = [] := by intro e; rw [ByteArray.toList_eq] at e; have h9 : s.data.toList.length = 0 := (by rw [e]; rfl); rw [Array.length_toList] at h9; have h8 : s.data.size = s.size := rfl; omega
   clear hh hr h
   go_enter Tryz.func38, Tryz.ntmps38
   go_upto_region 3 with fail
   clear hd0 e0 htl
   rcases numH_cases HB.out with hg | ⟨j, hj1, hj2, hj3, hj4, hj5⟩
   · skip
     have hno : ∀ i, i < s.size → lim (bytesOf s) i ≠ 47 := fun i hi => by
      have := good_bytes hg (i := i) (by rw [HTL.out]; exact hi) rfl
      rcases this with h | h | h | h <;> omega
     have HG := Lib.hid hg
     go_wp2
     go_loopw [3] (fun i wr => ∃ k : Nat, i = .int .i64 (k : Int) ∧ k ≤ s.size ∧ w = wr) (fun i _ => s.size - (intOf i).toNat)
     case atStart => exact ⟨0, rfl, Nat.zero_le _, rfl⟩
     case round =>
      obtain ⟨k, rfl, hk, rfl⟩ := hrel
      by_cases hlt : k < s.size
      · have hks := hlt
        obtain ⟨d, hd⟩ : ∃ d, (s[k]'hks).toNat = d := ⟨_, rfl⟩
        have hne : d ≠ 47 := by rw [← hd, Limb.byte_at s k hks]; exact hno k hlt
        have e1 : ((d : Int) == 47) = false := by rw [beq_eq_false_iff_ne]; omega
        clear hne
        go_wp2
        go_roundw
        case rel => exact ⟨k + 1, by go_num, by omega, by first | rfl | trivial⟩
        case measure => simp [intOf]; omega
      · obtain rfl : s.size = k := by omega
        clear hno
        go_wp2_with (go_at_call 66; (with_reducible refine (refLGood_c s (by omega) _ true HG.out).mono ?_); rintro e wx ⟨rfl, rfl⟩)
        go_ret
        exact ⟨rfl, rfl⟩
   · skip
     obtain ⟨U, hU⟩ : ∃ U, s.extract 0 j = U := ⟨_, rfl⟩
     obtain ⟨V, hV⟩ : ∃ V, s.extract (j + 1) s.size = V := ⟨_, rfl⟩
     have HUb : Hid (litGood (bytesOf U) = true) := by show _ = _; rw [← hU, bytesOf_extract]; simpa using hj3
     have HVb : Hid (litGood (bytesOf V) = true) := by show _ = _; rw [← hV, bytesOf_extract]; rw [List.take_of_length_le (by rw [List.length_drop, HTL.out]; omega)] ; exact hj4
     have hUs : U.size ≤ 1000000000 := by have h := (litGood_iff.1 HUb.out).2.1; rw [length_bytesOf] at h; omega
     have hVs : V.size ≤ 1000000000 := by have h := (litGood_iff.1 HVb.out).2.1; rw [length_bytesOf] at h; omega
     have hj := hj1
     rw [HTL.out] at hj
     have hno := hj5
     clear hj1 hj3 hj4 hj5
     go_wp2
     go_loopw [3] (fun i wr => ∃ k : Nat, i = .int .i64 (k : Int) ∧ k ≤ j ∧ w = wr) (fun i _ => s.size - (intOf i).toNat)
     case atStart => exact ⟨0, rfl, Nat.zero_le _, rfl⟩
     case round =>
      obtain ⟨k, rfl, hk, rfl⟩ := hrel
      by_cases hlt : k < j
      · have hks : k < s.size := by omega
        obtain ⟨d, hd⟩ : ∃ d, (s[k]'hks).toNat = d := ⟨_, rfl⟩
        have hne : d ≠ 47 := by rw [← hd, Limb.byte_at s k hks]; exact hno k hlt
        have e1 : ((d : Int) == 47) = false := by rw [beq_eq_false_iff_ne]; omega
        clear hne
        go_wp2
        go_roundw
        case rel => exact ⟨k + 1, by go_num, by omega, by first | rfl | trivial⟩
        case measure => simp [intOf]; omega
      · obtain rfl : j = k := by omega
        have hd : (s[j]'hj).toNat = 47 := by rw [Limb.byte_at s j hj]; exact hj2
        clear hno hj2
        go_wp2_with (first | (go_at_call 66; (with_reducible refine (refLGood_c U (by omega) _ true HUb.out).mono ?_); rintro e wx ⟨rfl, rfl⟩) | (go_at_call 66; (with_reducible refine (refLGood_c V (by omega) _ true HVb.out).mono ?_); rintro e wx ⟨rfl, rfl⟩))
        go_ret
        exact ⟨rfl, rfl⟩
end Go.Proofs.YtheaepceghnkpaaGreatDoor

/- What the reference's Cut and the statements' Most answer, as contracts over memory. No condition. -/
namespace Go.Proofs.YtheaepceghnkpaaGreatDoor
open Go.RowKit Limb
set_option linter.unusedVariables false
abbrev limC (a b n p : Int) : Array Value := #[.int .i64 a, .int .i64 b, .int .i64 n, .int .i64 p]
theorem sizeLim : (Tryz.prog.info? 23).map (·.size) = some 4 := by kernel_rfl
theorem manyLim (a b n p : Int) : Many Tryz.prog 23 (limC a b n p).size := ⟨sizeLim, _, Tryz.underlying23, rfl⟩
theorem fitsLim (a b n p : Int) : Many Tryz.prog 23 (limC a b n p).size ∧ (limC 0 0 0 0).size = (limC a b n p).size ∧ ∀ v ∈ limC a b n p, v.oneCell' = true := ⟨manyLim a b n p, rfl, by simp [Value.oneCell']⟩
set_option maxHeartbeats 4000000 in
set_option maxRecDepth 100000 in
theorem pMost_c (w : World) :
 Calls Tryz.prog 16 #[] w fun e w' => e = .returned (.agg (limC 4000 60 2000 64)) ∧ Below w.heap.size w w' := by
 have HU := Lib.hid (fitsLim 4000 60 2000 64)
 have hz := rowA_new w 23 (limC 0 0 0 0)
 have HRf := Lib.hid (rowA_new w 23 (limC 4000 60 2000 64))
 have HE := Lib.hid (below_new w (.cells (limC 4000 60 2000 64) 23))
 go_enter Tryz.func16, Tryz.ntmps16
 go_wp2
 refine bodyPost_ret (results_cell_row rfl _ _ _ 23 (limC 4000 60 2000 64) (0, 0) _ rfl HRf.out Tryz.underlying23 rfl sizeLim) rfl ?_
 exact ⟨rfl, HE.out⟩
set_option maxHeartbeats 4000000 in
set_option maxRecDepth 100000 in
theorem rCut_c (a b n p : Int) (w : World) :
 Calls Tryz.prog 14 #[.agg (limC a b n p)] w fun e w' => e = .returned (.agg (limC (max 0 (min a 4000)) (max 0 (min b 60)) (max 0 (min n 2000)) (max 0 (min p 64)))) ∧ Below w.heap.size w w' := by
 have bn := below_new w (.cells (limC a b n p) 23)
 have hr := rowA_new (w.alloc (.cells (limC a b n p) 23)) 23 (limC (max 0 (min a 4000)) (max 0 (min b 60)) (max 0 (min n 2000)) (max 0 (min p 64)))
 rw [World.size_alloc] at hr
 have HRf := Lib.hid hr
 have HE := Lib.hid (below_two bn (below_new (w.alloc (.cells (limC a b n p) 23)) (.cells (limC (max 0 (min a 4000)) (max 0 (min b 60)) (max 0 (min n 2000)) (max 0 (min p 64))) 23)))
 clear bn hr
 go_enter Tryz.func14, Tryz.ntmps14
 go_wp2
 refine bodyPost_ret (results_cell_row rfl _ _ _ 23 (limC (max 0 (min a 4000)) (max 0 (min b 60)) (max 0 (min n 2000)) (max 0 (min p 64))) (0, 0) _ rfl HRf.out Tryz.underlying23 rfl sizeLim) rfl ?_
 exact ⟨rfl, HE.out⟩
theorem cutL_is (a b n p : Int) : max 0 (min a 4000) = ((cutL a b n p).text : Int) ∧ max 0 (min b 60) = ((cutL a b n p).deep : Int) ∧ max 0 (min n 2000) = ((cutL a b n p).nodes : Int) ∧ max 0 (min p 64) = ((cutL a b n p).power : Int) := by
 unfold cutL
 dsimp only
 refine ⟨?_, ?_, ?_, ?_⟩ <;> omega
theorem cutL_most : cutL 4000 60 2000 64 = mostL := rfl
end Go.Proofs.YtheaepceghnkpaaGreatDoor

/- What the reference of layer 14 answers (Units, Two), as contracts over memory. Condition: texts that can be read. -/
namespace Go.Proofs.YtheaepceghnkpaaGreatDoor
open Go.RowKit Limb
set_option linter.unusedVariables false
set_option maxHeartbeats 4000000 in
set_option maxRecDepth 100000 in
theorem rUnits_c (s : ByteArray) (hs : s.size ≤ 1000000000) (v : Bool) (hv : unitOk s = v) (w : World) :
 Calls Tryz.prog 37 #[.string s] w fun e w' => e = .returned (.bool v) ∧ w = w' := by
 have HV := Lib.hid hv
 clear hv
 go_enter Tryz.func37, Tryz.ntmps37
 go_wp2
 go_loopw [3] (fun i wr => ∃ k : Nat, i = .int .i64 (k : Int) ∧ k ≤ s.size ∧ Hid (NoU s k) ∧ w = wr) (fun i _ => s.size - (intOf i).toNat)
 case atStart => exact ⟨0, rfl, Nat.zero_le _, fun j h => absurd h (Nat.not_lt_zero j), rfl⟩
 case round =>
  obtain ⟨k, rfl, hk, HN, rfl⟩ := hrel
  by_cases hlt : k < s.size
  · obtain ⟨d, hd⟩ : ∃ d, (s[k]'hlt).toNat = d := ⟨_, rfl⟩
    have HD : Hid ((s.get! k).toNat = d) := by show _ = _; rw [get_bang s k hlt, hd]
    have bad : okB d = false → Hid (v = false) := fun h => by
     show _ = _
     rw [← HV.out]
     unfold unitOk
     rw [Bool.and_eq_false_iff]
     right
     refine Bool.eq_false_iff.2 fun e => ?_
     have := (all_iff s).1 e k hlt hlt
     rw [HD.out, h] at this
     cases this
    by_cases h1 : d = 93
    · subst h1
      have HV0 := bad rfl
      clear bad
      go_wp2
      go_ret
      exact ⟨by rw [HV0.out]; rfl, rfl⟩
    · have e1 : ((d : Int) == 93) = false := by rw [beq_eq_false_iff_ne]; omega
      by_cases h2 : d = 10
      · subst h2
        have HV0 := bad rfl
        clear bad
        go_wp2
        go_ret
        exact ⟨by rw [HV0.out]; rfl, rfl⟩
      · have e2 : ((d : Int) == 10) = false := by rw [beq_eq_false_iff_ne]; omega
        have HN2 : Hid (NoU s (k + 1)) := HN.out.succ (by rw [HD.out]; unfold okB; simp; omega)
        clear bad
        go_wp2
        go_roundw
        case rel => exact ⟨k + 1, by go_num, hlt, HN2, by first | rfl | trivial⟩
        case measure => simp [intOf]; omega
  · obtain rfl : k = s.size := by omega
    have HV1 : Hid (v = decide (s.size ≤ 200)) := by show _ = _; rw [← HV.out]; unfold unitOk; rw [(all_iff s).2 HN.out, Bool.and_true]
    have e9 : decide ((s.size : Int) ≤ 200) = v := by rw [HV1.out, decide_eq_decide]; omega
    go_wp2
    go_ret
    exact ⟨rfl, rfl⟩
set_option maxHeartbeats 4000000 in
set_option maxRecDepth 100000 in
theorem rTwo_c (k : Int) (v : Bool) (hv : twoK k = v) (w : World) :
 Calls Tryz.prog 40 #[.int .i64 k] w fun e w' => e = .returned (.bool v) ∧ w = w' := by
 by_cases h3 : k = 3
 · subst h3
   have hv1 : v = true := by rw [← hv]; decide
   subst hv1
   clear hv
   go_enter Tryz.func40, Tryz.ntmps40
   go_wp2
   go_ret
   exact ⟨rfl, rfl⟩
 · have e3 : (k == 3) = false := by rw [beq_eq_false_iff_ne]; exact h3
   by_cases h4 : k = 4
   · subst h4
     have hv1 : v = true := by rw [← hv]; decide
     subst hv1
     clear hv
     go_enter Tryz.func40, Tryz.ntmps40
     go_wp2
     go_ret
     exact ⟨rfl, rfl⟩
   · have e4 : (k == 4) = false := by rw [beq_eq_false_iff_ne]; exact h4
     by_cases h5 : k = 5
     · subst h5
       have hv1 : v = true := by rw [← hv]; decide
       subst hv1
       clear hv
       go_enter Tryz.func40, Tryz.ntmps40
       go_wp2
       go_ret
       exact ⟨rfl, rfl⟩
     · have e5 : (k == 5) = false := by rw [beq_eq_false_iff_ne]; exact h5
       by_cases h6 : k = 6
       · subst h6
         have hv1 : v = true := by rw [← hv]; decide
         subst hv1
         clear hv
         go_enter Tryz.func40, Tryz.ntmps40
         go_wp2
         go_ret
         exact ⟨rfl, rfl⟩
       · have e6 : (k == 6) = false := by rw [beq_eq_false_iff_ne]; exact h6
         have hv0 : v = false := by rw [← hv, Bool.eq_false_iff]; exact two_no h3 h4 h5 h6
         subst hv0
         clear hv
         go_enter Tryz.func40, Tryz.ntmps40
         go_wp2
         go_ret
         exact ⟨rfl, rfl⟩
end Go.Proofs.YtheaepceghnkpaaGreatDoor

/- What the reference of layer 14 answers (Begin), as a contract over memory. Conditions: a row of at most 10^6 nodes that can be read, texts of at most 10^6 bytes. -/
namespace Go.Proofs.YtheaepceghnkpaaGreatDoor
open Go.RowKit Limb
set_option linter.unusedVariables false
theorem no_step {kk a b j : Int} {t u : ByteArray} {p : Int} {os : List Nat} {m : Nat} (hm : m = os.length) (hlow : Low os)
 (h8 : (decide (kk = 1) && (decide (a = 0) && decide (b = 0) && decide (j = 0)) && litGood (bytesOf t) && unitOk u) = false)
 (h10 : (decide (kk = 2) && (decide (a = 0) && decide (b = 0) && decide (j = 0)) && isNam (bytesOf t) && decide (u.size = 0)) = false)
 (h12 : (((decide (kk = 7) && decide (j = 0)) || (decide (kk = 8) && decide (-64 ≤ j) && decide (j ≤ 64))) && decide (0 < m) && decide (a + 1 = (m : Int)) && decide (b = 0) && decide (t.size = 0) && decide (u.size = 0)) = false)
 (h14 : (twoK kk && decide (1 < m) && decide (b + 1 = (m : Int)) && decide (0 < os.getD (m - 1) 0) && decide (a + 1 = (os.getD (m - 1) 0 : Int)) && decide (j = 0) && decide (t.size = 0) && decide (u.size = 0)) = false) : stepB os ⟨kk, a, b, j, t, u, p⟩ = none := by
 cases hs : stepB os ⟨kk, a, b, j, t, u, p⟩ with
 | none => rfl
 | some s =>
  exfalso
  obtain ⟨hf, hc⟩ := stepB_cases hs
  unfold fitsN at hf
  dsimp only at hf
  cases hc with
  | leaf hk _ =>
   dsimp only at hk
   rcases hk with rfl | rfl
   · rw [if_pos rfl] at hf
     simp only [Bool.and_eq_true, decide_eq_true_eq] at hf
     simp [hf] at h8
   · rw [if_neg (by decide), if_pos rfl] at hf
     simp only [Bool.and_eq_true, decide_eq_true_eq] at hf
     simp [hf] at h10
  | one hk i ha hl _ =>
   dsimp only at hk ha
   have h78 := oneK_iff.1 hk
   rw [if_neg (by omega), if_neg (by omega), if_neg (by rw [one_not_two hk]; decide)] at hf
   rcases h78 with rfl | rfl
   · rw [if_pos rfl] at hf
     simp only [Bool.and_eq_true, decide_eq_true_eq] at hf
     simp [hf] at h12
     omega
   · rw [if_neg (by decide), if_pos rfl] at hf
     simp only [Bool.and_eq_true, decide_eq_true_eq] at hf
     simp [hf] at h12
     omega
  | two hk i r hb hl ha hi _ =>
   dsimp only at hk ha hb
   have h36 := twoK_iff.1 hk
   rw [if_neg (by omega), if_neg (by omega), if_pos hk] at hf
   simp only [Bool.and_eq_true, decide_eq_true_eq] at hf
   have hmi : m - 1 = i := by omega
   have hlo := hlow.le i
   rw [hmi, hi] at h14
   simp [hf, hk] at h14
   omega
theorem empty_yes {s : ByteArray} (h : s.size = 0) : s.toList.isEmpty = true := by
 have : s = ⟨#[]⟩ := by
  cases s with
  | mk a => have h2 : a = #[] := Array.eq_empty_of_size_eq_zero h
            rw [h2]
 rw [this]; decide +kernel
theorem empty_no {s : ByteArray} (h : ¬ s.size = 0) : s.toList.isEmpty = false := by
 rw [ByteArray.toList_eq, Bool.eq_false_iff]
 intro e
 have h2 : s.data.toList = [] := List.isEmpty_iff.1 e
 exact h (by show s.data.size = 0; rw [← Array.length_toList, h2]; rfl)
def NumO (w : World) (B : Nat) (A : Option Addr) (n c : Nat) (os : List Nat) : Prop := n = os.length ∧ n ≤ c ∧ OwnR w B 3 1 A n c (os.map fun (x : Nat) => Value.int .i64 (x : Int))
theorem num_elem : Elem Tryz.prog 73 3 1 := elem_of Tryz.underlying73 (v := .int .i64 0) (b := 8) (by kernel_rfl) rfl (by decide) (by decide)
theorem NumO.nil (w : World) (B : Nat) : NumO w B none 0 0 [] := ⟨rfl, Nat.le_refl _, OwnR.nil _ _ _ _⟩
theorem NumO.below {w w' : World} {B n c : Nat} {A : Option Addr} {os : List Nat} (h : NumO w B A n c os) (hb : Below w.heap.size w w') : NumO w' B A n c os := ⟨h.1, h.2.1, h.2.2.below hb⟩
theorem NumO.cell {w : World} {B n c : Nat} {A : Option Addr} {os : List Nat} (h : NumO w B A n c os) {j : Nat} (hj : j < os.length) : ∃ g, A = some ⟨g, 0, none⟩ ∧ w.cell? ⟨g, j, none⟩ = some (.int .i64 ((os.getD j 0 : Nat) : Int)) := by
 obtain ⟨g, e, _, _, _, _, h6⟩ := h.2.2.cells (by have := h.1; omega)
 refine ⟨g, e, h6 j _ ?_⟩
 rw [List.getElem?_map, List.getElem?_eq_getElem hj, List.getD_eq_getElem?_getD, List.getElem?_eq_getElem hj]
 rfl
theorem NumO.len {w : World} {B n c : Nat} {A : Option Addr} {os : List Nat} (h : NumO w B A n c os) : n = os.length := h.1
set_option maxHeartbeats 4000000 in
set_option maxRecDepth 100000 in
theorem rBegin_c {w : World} {A : Option Addr} {n c : Nat} {ts : List Nd} (h : TreR w A n c ts) (hm : Mild ts) :
 Calls Tryz.prog 39 #[.slice A n c] w fun e w' => ∃ B m d, e = .returned (.slice B m d) ∧ NumO w' w.heap.size B m d ((begT ts).getD []) ∧ Below w.heap.size w w' := by
 obtain ⟨hn, hc, hcm, _⟩ := id h
 have hn6 := hm.1
 rw [← hn] at hn6
 have H := Lib.hid h
 have HM := Lib.hid hm
 have HN := Lib.hid hn
 clear h hm hn
 go_enter Tryz.func39, Tryz.ntmps39
 go_wp2
 go_loopw [3, 4] (fun s i wr => ∃ (B : Option Addr) (m d : Nat) (os : List Nat), s = .slice B m d ∧ i = .int .i64 (m : Int) ∧ m ≤ n ∧ Hid (NumO wr w.heap.size B m d os) ∧ Hid (begT (ts.take m) = some os) ∧ Hid (Below w.heap.size w wr)) (fun _ i _ => n - (intOf i).toNat)
 case atStart => exact ⟨none, 0, 0, [], rfl, rfl, Nat.zero_le _, NumO.nil _ _, rfl, Below.refl _ _⟩
 case round =>
  obtain ⟨B, m, d, os, rfl, rfl, hk, HO, HBe, HB⟩ := hrel
  by_cases hlt : m < n
  · skip
    obtain ⟨x, hx⟩ : ∃ x, ts[m]? = some x := ⟨_, List.getElem?_eq_getElem (by rw [← HN.out]; exact hlt)⟩
    have HX := Lib.hid hx
    obtain ⟨g, og, rfl, hg, hin⟩ := (H.out.below HB.out).at hx
    obtain ⟨hxt, hxu⟩ := HM.out.at hx
    obtain ⟨kk, a, b, j, t, u, p⟩ := x
    dsimp only at hxt hxu
    have HI_x : Hid (InV wr g (og + m * 7) (ndC kk a b j t u p)) := hin
    have HM_x := Lib.hid (manyNd kk a b j t u p)
    have HU_x : Hid (Many Tryz.prog 47 (ndC kk a b j t u p).size ∧ zN.size = (ndC kk a b j t u p).size ∧ ∀ v ∈ ndC kk a b j t u p, v.oneCell' = true) := fitsNd ⟨kk, a, b, j, t, u, p⟩ zNd
    have bn := below_new wr (.cells (ndC kk a b j t u p) 47)
    have HOs := Lib.hid (HO.out.below bn)
    have HBs := Lib.hid (below_two HB.out bn)
    clear hx hin bn HO HB hg
    go_upto_region 6 with (first | (refine wpList_loadV (by rfl) _ _ (by rfl) _ _ (by rfl) _ (by assumption) (by assumption) ?_) | (refine wpList_storeNew (by rfl) _ _ _ (by rfl) _ _ _ (by rfl) (by rfl) (by assumption) ?_))
    have hrx := rowA_new wr 47 (ndC kk a b j t u p)
    generalize wr.alloc (.cells (ndC kk a b j t u p) 47) = wS at *
    obtain ⟨q5, hq5⟩ : ∃ g, g = wr.heap.size := ⟨_, rfl⟩
    rw [← hq5] at hrx ⊢
    clear hq5 HI_x HU_x
    have k0 := hrx.cell (k := 0) (v := .int .i64 kk) rfl
    have k1 := hrx.cell (k := 1) (v := .int .i64 a) rfl
    have kb2 := hrx.cell (k := 2) (v := .int .i64 b) rfl
    have k3 := hrx.cell (k := 3) (v := .int .i64 j) rfl
    have k4 := hrx.cell (k := 4) (v := .string t) rfl
    have k5 := hrx.cell (k := 5) (v := .string u) rfl
    have HRx := Lib.hid hrx
    clear hrx
    obtain ⟨lf, hlf⟩ : ∃ lf, (decide (a = 0) && decide (b = 0) && decide (j = 0)) = lf := ⟨_, rfl⟩
    dsimp only [Act.put]
    go_cut [6] from 17 to 29 (fun v wx => v = .bool lf ∧ wS = wx)
    case first =>
     by_cases ha : a = 0
     · have ea : (a == 0) = true := by rw [beq_iff_eq]; omega
       by_cases hb : b = 0
       · have eb : (b == 0) = true := by rw [beq_iff_eq]; omega
         by_cases hj : j = 0
         · have ej : (j == 0) = true := by rw [beq_iff_eq]; omega
           have hl : lf = true := by rw [← hlf]; simp [ha, hb, hj]
           subst hl
           clear hlf ha hb hj
           go_wp2_with fail
           go_meet
           exact ⟨rfl, rfl⟩
         · have ej : (j == 0) = false := by rw [beq_eq_false_iff_ne]; omega
           have hl : lf = false := by rw [← hlf]; simp [ha, hb, hj]
           subst hl
           clear hlf ha hb hj
           go_wp2_with fail
           go_meet
           exact ⟨rfl, rfl⟩
       · have eb : (b == 0) = false := by rw [beq_eq_false_iff_ne]; omega
         have hl : lf = false := by rw [← hlf]; simp [ha, hb]
         subst hl
         clear hlf ha hb
         go_wp2_with fail
         go_meet
         exact ⟨rfl, rfl⟩
     · have ea : (a == 0) = false := by rw [beq_eq_false_iff_ne]; omega
       have hl : lf = false := by rw [← hlf]; simp [ha]
       subst hl
       clear hlf ha
       go_wp2_with fail
       go_meet
       exact ⟨rfl, rfl⟩
    case rest =>
     obtain ⟨rfl, rfl⟩ := hcut
     have HLf := Lib.hid hlf
     clear hlf
     obtain ⟨lg, hlg⟩ : ∃ b, litGood (bytesOf t) = b := ⟨_, rfl⟩
     obtain ⟨un, hun⟩ : ∃ b, unitOk u = b := ⟨_, rfl⟩
     obtain ⟨nm, hnm⟩ : ∃ b, isNam (bytesOf t) = b := ⟨_, rfl⟩
     have HLg := Lib.hid hlg
     have HUn := Lib.hid hun
     have HNm := Lib.hid hnm
     clear hlg hun hnm
     obtain ⟨c8, h8⟩ : ∃ c, (decide (kk = 1) && lf && lg && un) = c := ⟨_, rfl⟩
     have H8 := Lib.hid h8
     go_upto_region 8 with fail
     go_cut [6, 30] from 31 to 46 (fun l v wx => l = .bool lf ∧ v = .bool c8 ∧ wS = wx)
     case first =>
      by_cases hkk1 : kk = 1
      · have ekk1 : (kk == 1) = true := by rw [beq_iff_eq]; omega
        cases lf
        · skip
          have hl : c8 = false := by rw [← h8]; simp [hkk1]
          subst hl
          clear h8 hkk1
          go_wp2_with (first | (go_at_call 66; (with_reducible refine (refLGood_c t (by omega) wS _ HLg.out).mono ?_); rintro e wx ⟨rfl, rfl⟩) | (go_at_call 37; (with_reducible refine (rUnits_c u (by omega) _ HUn.out wS).mono ?_); rintro e wx ⟨rfl, rfl⟩))
          go_meet
          exact ⟨rfl, rfl, rfl⟩
        · skip
          cases lg
          · skip
            have hl : c8 = false := by rw [← h8]; simp [hkk1]
            subst hl
            clear h8 hkk1
            go_wp2_with (first | (go_at_call 66; (with_reducible refine (refLGood_c t (by omega) wS _ HLg.out).mono ?_); rintro e wx ⟨rfl, rfl⟩) | (go_at_call 37; (with_reducible refine (rUnits_c u (by omega) _ HUn.out wS).mono ?_); rintro e wx ⟨rfl, rfl⟩))
            go_meet
            exact ⟨rfl, rfl, rfl⟩
          · skip
            cases un
            · skip
              have hl : c8 = false := by rw [← h8]; simp [hkk1]
              subst hl
              clear h8 hkk1
              go_wp2_with (first | (go_at_call 66; (with_reducible refine (refLGood_c t (by omega) wS _ HLg.out).mono ?_); rintro e wx ⟨rfl, rfl⟩) | (go_at_call 37; (with_reducible refine (rUnits_c u (by omega) _ HUn.out wS).mono ?_); rintro e wx ⟨rfl, rfl⟩))
              go_meet
              exact ⟨rfl, rfl, rfl⟩
            · skip
              have hl : c8 = true := by rw [← h8]; simp [hkk1]
              subst hl
              clear h8 hkk1
              go_wp2_with (first | (go_at_call 66; (with_reducible refine (refLGood_c t (by omega) wS _ HLg.out).mono ?_); rintro e wx ⟨rfl, rfl⟩) | (go_at_call 37; (with_reducible refine (rUnits_c u (by omega) _ HUn.out wS).mono ?_); rintro e wx ⟨rfl, rfl⟩))
              go_meet
              exact ⟨rfl, rfl, rfl⟩
      · have ekk1 : (kk == 1) = false := by rw [beq_eq_false_iff_ne]; omega
        have hl : c8 = false := by rw [← h8]; simp [hkk1]
        subst hl
        clear h8 hkk1
        go_wp2_with (first | (go_at_call 66; (with_reducible refine (refLGood_c t (by omega) wS _ HLg.out).mono ?_); rintro e wx ⟨rfl, rfl⟩) | (go_at_call 37; (with_reducible refine (rUnits_c u (by omega) _ HUn.out wS).mono ?_); rintro e wx ⟨rfl, rfl⟩))
        go_meet
        exact ⟨rfl, rfl, rfl⟩
     case rest =>
      obtain ⟨rfl, rfl, rfl⟩ := hcut
      cases c8 with
      | true =>
       as_aux_lemma =>
        clear h8
        have HSt : Hid (stepB os ⟨kk, a, b, j, t, u, p⟩ = some m) := by
         show _ = _
         have h := H8.out
         rw [← HLf.out, ← HLg.out, ← HUn.out] at h
         simp only [Bool.and_eq_true, decide_eq_true_eq] at h
         obtain ⟨⟨⟨h1, ⟨h2, h3⟩, h4⟩, h5⟩, h6⟩ := h
         have e : os.length = m := HOs.out.1.symm
         rw [← e]
         refine stepB_leaf ?_ (.inl h1)
         unfold fitsN
         rw [if_pos h1, decide_eq_true h2, decide_eq_true h3, decide_eq_true h4, h5, h6]
         rfl
        have bl := below_new wS (.cells #[.int .i64 (m : Int)] 3)
        have HO2 := Lib.hid (HOs.out.2.2.below bl)
        have HL2 : Hid (RowA (wS.alloc (.cells #[.int .i64 (m : Int)] 3)) wS.heap.size 3 #[.int .i64 (m : Int)] ∧ (#[.int .i64 (m : Int)] : Array Value).size = 1 ∧ ∀ v ∈ (#[.int .i64 (m : Int)] : Array Value), v.oneCell' = true) := ⟨rowA_new _ _ _, rfl, by simp [Value.oneCell']⟩
        have HE2 : Hid (m ≤ 1000000 ∧ w.heap.size ≤ (wS.alloc (.cells #[.int .i64 (m : Int)] 3)).heap.size) := ⟨by omega, by have := HBs.out.size; simp; omega⟩
        have HB2 := Lib.hid (below_two HBs.out bl)
        clear bl HBs
        go_wp2_with (at_builtin; refine wpList_append_one rfl _ _ 73 rfl w.heap.size 3 1 num_elem B m d _ rfl HO2 wS.heap.size rfl 3 #[.int .i64 (m : Int)] HL2 HE2 ?_)
        intro A2 c2 w5 hO5 hg5
        have HB5 := Lib.hid (below_append HB2.out (Nat.le_refl _) HE2.out.2 HO2.out hg5.out)
        have HO5 : Hid (NumO w5 w.heap.size A2 (m + 1) c2 (os ++ [m])) := by
         have h5 := hO5.out
         obtain ⟨g9, _, _, _, hc9, _⟩ := h5.cells (by omega)
         refine ⟨by rw [List.length_append, ← HOs.out.1]; rfl, hc9, ?_⟩
         rw [List.map_append]
         exact h5
        have HBe2 : Hid (begT (ts.take (m + 1)) = some (os ++ [m])) := by
         have h1 := HOs.out.1
         have h2 := HX.out
         have h3 := HBe.out
         have hz := begT_next (i := os.length) (by rw [← h1]; exact h2) (by rw [← h1]; exact h3) HSt.out
         rw [← h1] at hz
         exact hz
        clear hO5 hg5 HO2 HL2 HE2 HB2
        go_wp2
        go_roundw
        case rel => exact ⟨A2, m + 1, c2, os ++ [m], rfl, by first | rfl | (go_num), hlt, HO5, HBe2, HB5⟩
        case measure => simp [intOf]; omega
      | false =>
       as_aux_lemma =>
        clear h8
        obtain ⟨c10, h10⟩ : ∃ c, (decide (kk = 2) && lf && nm && decide (u.size = 0)) = c := ⟨_, rfl⟩
        have H10 := Lib.hid h10
        go_upto_region 10 with fail
        go_cut [6, 51] from 52 to 67 (fun l v wx => l = .bool lf ∧ v = .bool c10 ∧ wS = wx)
        case first =>
         by_cases hkk2 : kk = 2
         · have ekk2 : (kk == 2) = true := by rw [beq_iff_eq]; omega
           cases lf
           · skip
             have hl : c10 = false := by rw [← h10]; simp [hkk2]
             subst hl
             clear h10 hkk2
             go_wp2_with (go_at_call 36; (with_reducible refine (rxIsName_c t (by omega) wS _ HNm.out).mono ?_); rintro e wx ⟨rfl, rfl⟩)
             go_meet
             exact ⟨rfl, rfl, rfl⟩
           · skip
             cases nm
             · skip
               have hl : c10 = false := by rw [← h10]; simp [hkk2]
               subst hl
               clear h10 hkk2
               go_wp2_with (go_at_call 36; (with_reducible refine (rxIsName_c t (by omega) wS _ HNm.out).mono ?_); rintro e wx ⟨rfl, rfl⟩)
               go_meet
               exact ⟨rfl, rfl, rfl⟩
             · skip
               by_cases hu0 : u.size = 0
               · have eu0 : u.toList.isEmpty = true := empty_yes hu0
                 have hl : c10 = true := by rw [← h10]; simp [hkk2, hu0]
                 subst hl
                 clear h10 hkk2 hu0
                 go_wp2_with (go_at_call 36; (with_reducible refine (rxIsName_c t (by omega) wS _ HNm.out).mono ?_); rintro e wx ⟨rfl, rfl⟩)
                 go_meet
                 exact ⟨rfl, rfl, rfl⟩
               · have eu0 : u.toList.isEmpty = false := empty_no hu0
                 have hl : c10 = false := by rw [← h10]; simp [hkk2, hu0]
                 subst hl
                 clear h10 hkk2 hu0
                 go_wp2_with (go_at_call 36; (with_reducible refine (rxIsName_c t (by omega) wS _ HNm.out).mono ?_); rintro e wx ⟨rfl, rfl⟩)
                 go_meet
                 exact ⟨rfl, rfl, rfl⟩
         · have ekk2 : (kk == 2) = false := by rw [beq_eq_false_iff_ne]; omega
           have hl : c10 = false := by rw [← h10]; simp [hkk2]
           subst hl
           clear h10 hkk2
           go_wp2_with (go_at_call 36; (with_reducible refine (rxIsName_c t (by omega) wS _ HNm.out).mono ?_); rintro e wx ⟨rfl, rfl⟩)
           go_meet
           exact ⟨rfl, rfl, rfl⟩
        case rest =>
         obtain ⟨rfl, rfl, rfl⟩ := hcut
         cases c10 with
         | true =>
          as_aux_lemma =>
           clear h10
           have HSt : Hid (stepB os ⟨kk, a, b, j, t, u, p⟩ = some m) := by
            show _ = _
            have h := H10.out
            rw [← HLf.out, ← HNm.out] at h
            simp only [Bool.and_eq_true, decide_eq_true_eq] at h
            obtain ⟨⟨⟨h1, ⟨h2, h3⟩, h4⟩, h5⟩, h6⟩ := h
            have e : os.length = m := HOs.out.1.symm
            rw [← e]
            refine stepB_leaf ?_ (.inr h1)
            unfold fitsN
            rw [if_neg (by show ¬ kk = 1; omega), if_pos h1, decide_eq_true h2, decide_eq_true h3, decide_eq_true h4, decide_eq_true h6, h5]
            rfl
           have bl := below_new wS (.cells #[.int .i64 (m : Int)] 3)
           have HO2 := Lib.hid (HOs.out.2.2.below bl)
           have HL2 : Hid (RowA (wS.alloc (.cells #[.int .i64 (m : Int)] 3)) wS.heap.size 3 #[.int .i64 (m : Int)] ∧ (#[.int .i64 (m : Int)] : Array Value).size = 1 ∧ ∀ v ∈ (#[.int .i64 (m : Int)] : Array Value), v.oneCell' = true) := ⟨rowA_new _ _ _, rfl, by simp [Value.oneCell']⟩
           have HE2 : Hid (m ≤ 1000000 ∧ w.heap.size ≤ (wS.alloc (.cells #[.int .i64 (m : Int)] 3)).heap.size) := ⟨by omega, by have := HBs.out.size; simp; omega⟩
           have HB2 := Lib.hid (below_two HBs.out bl)
           clear bl HBs
           go_wp2_with (at_builtin; refine wpList_append_one rfl _ _ 73 rfl w.heap.size 3 1 num_elem B m d _ rfl HO2 wS.heap.size rfl 3 #[.int .i64 (m : Int)] HL2 HE2 ?_)
           intro A2 c2 w5 hO5 hg5
           have HB5 := Lib.hid (below_append HB2.out (Nat.le_refl _) HE2.out.2 HO2.out hg5.out)
           have HO5 : Hid (NumO w5 w.heap.size A2 (m + 1) c2 (os ++ [m])) := by
            have h5 := hO5.out
            obtain ⟨g9, _, _, _, hc9, _⟩ := h5.cells (by omega)
            refine ⟨by rw [List.length_append, ← HOs.out.1]; rfl, hc9, ?_⟩
            rw [List.map_append]
            exact h5
           have HBe2 : Hid (begT (ts.take (m + 1)) = some (os ++ [m])) := by
            have h1 := HOs.out.1
            have h2 := HX.out
            have h3 := HBe.out
            have hz := begT_next (i := os.length) (by rw [← h1]; exact h2) (by rw [← h1]; exact h3) HSt.out
            rw [← h1] at hz
            exact hz
           clear hO5 hg5 HO2 HL2 HE2 HB2
           go_wp2
           go_roundw
           case rel => exact ⟨A2, m + 1, c2, os ++ [m], rfl, by first | rfl | (go_num), hlt, HO5, HBe2, HB5⟩
           case measure => simp [intOf]; omega
         | false =>
          as_aux_lemma =>
           clear h10
           obtain ⟨c12, h12⟩ : ∃ c, (((decide (kk = 7) && decide (j = 0)) || (decide (kk = 8) && decide (-64 ≤ j) && decide (j ≤ 64))) && decide (0 < m) && decide (a + 1 = (m : Int)) && decide (b = 0) && decide (t.size = 0) && decide (u.size = 0)) = c := ⟨_, rfl⟩
           have H12 := Lib.hid h12
           go_upto_region 12 with fail
           go_cut [72] from 73 to 121 (fun v wx => v = .bool c12 ∧ wS = wx)
           case first =>
            by_cases hk7 : kk = 7
            · have hk8 : ¬ kk = 8 := by omega
              have ek7 : (kk == 7) = true := by rw [beq_iff_eq]; omega
              have ek8 : (kk == 8) = false := by rw [beq_eq_false_iff_ne]; omega
              by_cases hj0 : j = 0
              · have ej0 : (j == 0) = true := by rw [beq_iff_eq]; omega
                by_cases hm0 : 0 < m
                · have em0 : decide ((0 : Int) < (m : Int)) = true := decide_eq_true (by omega)
                  by_cases ham : a + 1 = (m : Int)
                  · have eam : (a == ((m : Int) - 1)) = true := by rw [beq_iff_eq]; omega
                    by_cases hb0 : b = 0
                    · have eb0 : (b == 0) = true := by rw [beq_iff_eq]; omega
                      by_cases ht0 : t.size = 0
                      · have et0 : t.toList.isEmpty = true := empty_yes ht0
                        by_cases hu0 : u.size = 0
                        · have eu0 : u.toList.isEmpty = true := empty_yes hu0
                          have hl : c12 = true := by rw [← h12]; simp [hk7, hj0, hm0, ham, hb0, ht0, hu0]
                          subst hl
                          clear h12 hk7 hk8 hj0 ham hb0 ht0 hu0
                          go_wp2_with fail
                          go_meet
                          exact ⟨rfl, rfl⟩
                        · have eu0 : u.toList.isEmpty = false := empty_no hu0
                          have hl : c12 = false := by rw [← h12]; simp [hk7, hj0, hm0, ham, hb0, ht0, hu0]
                          subst hl
                          clear h12 hk7 hk8 hj0 ham hb0 ht0 hu0
                          go_wp2_with fail
                          go_meet
                          exact ⟨rfl, rfl⟩
                      · have et0 : t.toList.isEmpty = false := empty_no ht0
                        have hl : c12 = false := by rw [← h12]; simp [hk7, hj0, hm0, ham, hb0, ht0]
                        subst hl
                        clear h12 hk7 hk8 hj0 ham hb0 ht0
                        go_wp2_with fail
                        go_meet
                        exact ⟨rfl, rfl⟩
                    · have eb0 : (b == 0) = false := by rw [beq_eq_false_iff_ne]; omega
                      have hl : c12 = false := by rw [← h12]; simp [hk7, hj0, hm0, ham, hb0]
                      subst hl
                      clear h12 hk7 hk8 hj0 ham hb0
                      go_wp2_with fail
                      go_meet
                      exact ⟨rfl, rfl⟩
                  · have eam : (a == ((m : Int) - 1)) = false := by rw [beq_eq_false_iff_ne]; omega
                    have hl : c12 = false := by rw [← h12]; simp [hk7, hj0, hm0, ham]
                    subst hl
                    clear h12 hk7 hk8 hj0 ham
                    go_wp2_with fail
                    go_meet
                    exact ⟨rfl, rfl⟩
                · have em0 : decide ((0 : Int) < (m : Int)) = false := decide_eq_false (by omega)
                  have hl : c12 = false := by rw [← h12]; simp [hk7, hj0, hm0]
                  subst hl
                  clear h12 hk7 hk8 hj0
                  go_wp2_with fail
                  go_meet
                  exact ⟨rfl, rfl⟩
              · have ej0 : (j == 0) = false := by rw [beq_eq_false_iff_ne]; omega
                have hl : c12 = false := by rw [← h12]; simp [hk7, hj0]
                subst hl
                clear h12 hk7 hk8 hj0
                go_wp2_with fail
                go_meet
                exact ⟨rfl, rfl⟩
            · have ek7 : (kk == 7) = false := by rw [beq_eq_false_iff_ne]; omega
              by_cases hk8 : kk = 8
              · have ek8 : (kk == 8) = true := by rw [beq_iff_eq]; omega
                by_cases hj1 : -64 ≤ j
                · have ej1 : decide (-64 ≤ j) = true := decide_eq_true hj1
                  by_cases hj2 : j ≤ 64
                  · have ej2 : decide (j ≤ 64) = true := decide_eq_true hj2
                    by_cases hm0 : 0 < m
                    · have em0 : decide ((0 : Int) < (m : Int)) = true := decide_eq_true (by omega)
                      by_cases ham : a + 1 = (m : Int)
                      · have eam : (a == ((m : Int) - 1)) = true := by rw [beq_iff_eq]; omega
                        by_cases hb0 : b = 0
                        · have eb0 : (b == 0) = true := by rw [beq_iff_eq]; omega
                          by_cases ht0 : t.size = 0
                          · have et0 : t.toList.isEmpty = true := empty_yes ht0
                            by_cases hu0 : u.size = 0
                            · have eu0 : u.toList.isEmpty = true := empty_yes hu0
                              have hl : c12 = true := by rw [← h12]; simp [hk8, hj1, hj2, hm0, ham, hb0, ht0, hu0]
                              subst hl
                              clear h12 hk7 hk8 hj1 hj2 ham hb0 ht0 hu0
                              go_wp2_with fail
                              go_meet
                              exact ⟨rfl, rfl⟩
                            · have eu0 : u.toList.isEmpty = false := empty_no hu0
                              have hl : c12 = false := by rw [← h12]; simp [hk8, hj1, hj2, hm0, ham, hb0, ht0, hu0]
                              subst hl
                              clear h12 hk7 hk8 hj1 hj2 ham hb0 ht0 hu0
                              go_wp2_with fail
                              go_meet
                              exact ⟨rfl, rfl⟩
                          · have et0 : t.toList.isEmpty = false := empty_no ht0
                            have hl : c12 = false := by rw [← h12]; simp [hk8, hj1, hj2, hm0, ham, hb0, ht0]
                            subst hl
                            clear h12 hk7 hk8 hj1 hj2 ham hb0 ht0
                            go_wp2_with fail
                            go_meet
                            exact ⟨rfl, rfl⟩
                        · have eb0 : (b == 0) = false := by rw [beq_eq_false_iff_ne]; omega
                          have hl : c12 = false := by rw [← h12]; simp [hk8, hj1, hj2, hm0, ham, hb0]
                          subst hl
                          clear h12 hk7 hk8 hj1 hj2 ham hb0
                          go_wp2_with fail
                          go_meet
                          exact ⟨rfl, rfl⟩
                      · have eam : (a == ((m : Int) - 1)) = false := by rw [beq_eq_false_iff_ne]; omega
                        have hl : c12 = false := by rw [← h12]; simp [hk8, hj1, hj2, hm0, ham]
                        subst hl
                        clear h12 hk7 hk8 hj1 hj2 ham
                        go_wp2_with fail
                        go_meet
                        exact ⟨rfl, rfl⟩
                    · have em0 : decide ((0 : Int) < (m : Int)) = false := decide_eq_false (by omega)
                      have hl : c12 = false := by rw [← h12]; simp [hk8, hj1, hj2, hm0]
                      subst hl
                      clear h12 hk7 hk8 hj1 hj2
                      go_wp2_with fail
                      go_meet
                      exact ⟨rfl, rfl⟩
                  · have ej2 : decide (j ≤ 64) = false := decide_eq_false hj2
                    have hl : c12 = false := by rw [← h12]; simp [hk8, hj1, hj2]
                    subst hl
                    clear h12 hk7 hk8 hj1 hj2
                    go_wp2_with fail
                    go_meet
                    exact ⟨rfl, rfl⟩
                · have ej1 : decide (-64 ≤ j) = false := decide_eq_false hj1
                  have hl : c12 = false := by rw [← h12]; simp [hk8, hj1]
                  subst hl
                  clear h12 hk7 hk8 hj1
                  go_wp2_with fail
                  go_meet
                  exact ⟨rfl, rfl⟩
              · have ek8 : (kk == 8) = false := by rw [beq_eq_false_iff_ne]; omega
                have hl : c12 = false := by rw [← h12]; simp [hk7, hk8]
                subst hl
                clear h12 hk7 hk8
                go_wp2_with fail
                go_meet
                exact ⟨rfl, rfl⟩
           case rest =>
            obtain ⟨rfl, rfl⟩ := hcut
            cases c12 with
            | true =>
             as_aux_lemma =>
              clear h12
              have hm0 : 0 < m := by
               have h := H12.out
               simp only [Bool.and_eq_true, decide_eq_true_eq] at h
               exact h.1.1.1.1.2
              obtain ⟨gB, rfl, hcl⟩ := HOs.out.cell (j := m - 1) (by rw [← HOs.out.1]; omega)
              obtain ⟨y, hy⟩ : ∃ y, os.getD (m - 1) 0 = y := ⟨_, rfl⟩
              have Hy := Lib.hid hy
              rw [hy] at hcl
              clear hy
              obtain ⟨m1, hm1⟩ : ∃ k, m - 1 = k := ⟨_, rfl⟩
              rw [hm1] at hcl
              have hmi : (m : Int) - 1 = (m1 : Int) := by omega
              have hml : (m1 : Int) < (m : Int) := by omega
              have HSt : Hid (stepB os ⟨kk, a, b, j, t, u, p⟩ = some y) := by
               show _ = _
               have h := H12.out
               simp only [Bool.and_eq_true, Bool.or_eq_true, decide_eq_true_eq] at h
               obtain ⟨⟨⟨⟨⟨h1, h2⟩, h3⟩, h4⟩, h5⟩, h6⟩ := h
               have e : os.length = m := HOs.out.1.symm
               have e2 : os.getD (m - 1) 0 = y := Hy.out
               rw [← e2]
               refine stepB_one (j := m - 1) ?_ (oneK_iff.2 (by show kk = 7 ∨ kk = 8; omega)) (by show a = _; omega) (by omega)
               unfold fitsN
               rcases h1 with ⟨h1, h7⟩ | ⟨⟨h1, h7⟩, h8⟩
               · rw [if_neg (by show ¬ kk = 1; omega), if_neg (by show ¬ kk = 2; omega), if_neg (by show ¬ twoK kk = true; rw [h1]; decide), if_pos h1, decide_eq_true h4, decide_eq_true h7, decide_eq_true h5, decide_eq_true h6]; rfl
               · rw [if_neg (by show ¬ kk = 1; omega), if_neg (by show ¬ kk = 2; omega), if_neg (by show ¬ twoK kk = true; rw [h1]; decide), if_neg (by show ¬ kk = 7; omega), if_pos h1, decide_eq_true h4, decide_eq_true h7, decide_eq_true h8, decide_eq_true h5, decide_eq_true h6]; rfl
              have bl := below_new wS (.cells #[.int .i64 (y : Int)] 3)
              have HO2 := Lib.hid (HOs.out.2.2.below bl)
              have HL2 : Hid (RowA (wS.alloc (.cells #[.int .i64 (y : Int)] 3)) wS.heap.size 3 #[.int .i64 (y : Int)] ∧ (#[.int .i64 (y : Int)] : Array Value).size = 1 ∧ ∀ v ∈ (#[.int .i64 (y : Int)] : Array Value), v.oneCell' = true) := ⟨rowA_new _ _ _, rfl, by simp [Value.oneCell']⟩
              have HE2 : Hid (m ≤ 1000000 ∧ w.heap.size ≤ (wS.alloc (.cells #[.int .i64 (y : Int)] 3)).heap.size) := ⟨by omega, by have := HBs.out.size; simp; omega⟩
              have HB2 := Lib.hid (below_two HBs.out bl)
              clear bl HBs
              go_wp2_with (at_builtin; refine wpList_append_one rfl _ _ 73 rfl w.heap.size 3 1 num_elem _ m d _ rfl HO2 wS.heap.size rfl 3 #[.int .i64 (y : Int)] HL2 HE2 ?_)
              intro A2 c2 w5 hO5 hg5
              have HB5 := Lib.hid (below_append HB2.out (Nat.le_refl _) HE2.out.2 HO2.out hg5.out)
              have HO5 : Hid (NumO w5 w.heap.size A2 (m + 1) c2 (os ++ [y])) := by
               have h5 := hO5.out
               obtain ⟨g9, _, _, _, hc9, _⟩ := h5.cells (by omega)
               refine ⟨by rw [List.length_append, ← HOs.out.1]; rfl, hc9, ?_⟩
               rw [List.map_append]
               exact h5
              have HBe2 : Hid (begT (ts.take (m + 1)) = some (os ++ [y])) := by
               have h1 := HOs.out.1
               have h2 := HX.out
               have h3 := HBe.out
               have hz := begT_next (i := os.length) (by rw [← h1]; exact h2) (by rw [← h1]; exact h3) HSt.out
               rw [← h1] at hz
               exact hz
              clear hO5 hg5 HO2 HL2 HE2 HB2
              go_wp2
              go_roundw
              case rel => exact ⟨A2, m + 1, c2, os ++ [y], rfl, by first | rfl | (go_num), hlt, HO5, HBe2, HB5⟩
              case measure => simp [intOf]; omega
            | false =>
             as_aux_lemma =>
              clear h12
              obtain ⟨k2, hk2⟩ : ∃ b, twoK kk = b := ⟨_, rfl⟩
              have HK2 := Lib.hid hk2
              have HTw : Hid (∀ W, Calls Tryz.prog 40 #[.int .i64 kk] W fun e w' => e = .returned (.bool k2) ∧ w' = W) := fun W => (rTwo_c kk k2 HK2.out W).mono fun e w' h => ⟨h.1, h.2.symm⟩
              clear hk2
              by_cases hm1 : 1 < m
              · skip
                as_aux_lemma =>
                 go_upto_region 14 with fail
                 obtain ⟨gB, rfl, hcl⟩ := HOs.out.cell (j := m - 1) (by rw [← HOs.out.1]; omega)
                 obtain ⟨y, hy⟩ : ∃ y, os.getD (m - 1) 0 = y := ⟨_, rfl⟩
                 have Hy := Lib.hid hy
                 rw [hy] at hcl
                 clear hy
                 have hyl : y ≤ m - 1 := by rw [← Hy.out]; have h3 := HBe.out; exact (begT_low h3).le _
                 obtain ⟨m1, hm1e⟩ : ∃ k, m - 1 = k := ⟨_, rfl⟩
                 rw [hm1e] at hcl
                 have hmi : IntKind.i64.wrap ((m : Int) - 1) = (m1 : Int) := by rw [IntKind.wrap_i64]; omega
                 have hmi2 : (m : Int) - 1 = (m1 : Int) := by omega
                 have hyi : IntKind.i64.wrap ((y : Int) - 1) = (y : Int) - 1 := by rw [IntKind.wrap_i64]; omega
                 have hml : (m1 : Int) < (m : Int) := by omega
                 have hml2 : m1 < m := by omega
                 have em1 : decide ((1 : Int) < (m : Int)) = true := decide_eq_true (by omega)
                 have em2 : decide (1 < m) = true := decide_eq_true hm1
                 obtain ⟨c14, h14⟩ : ∃ c, (k2 && decide (1 < m) && decide (b + 1 = (m : Int)) && decide (0 < y) && decide (a + 1 = (y : Int)) && decide (j = 0) && decide (t.size = 0) && decide (u.size = 0)) = c := ⟨_, rfl⟩
                 have H14 := Lib.hid h14
                 go_cut [130] from 131 to 178 (fun v wx => v = .bool c14 ∧ ∃ q, wx = wS.drewN q)
                 case first =>
                  cases k2
                  · skip
                    have hl : c14 = false := by rw [← h14]; simp [hm1]
                    subst hl
                    clear h14
                    go_quiet ((go_at_call 40; exact Calls.quiet_of_same (HTw.out _)))
                    go_wp2_with fail
                    go_meet
                    exact ⟨rfl, _, rfl⟩
                  · skip
                    by_cases hb1 : b + 1 = (m : Int)
                    · have eb1 : (b == (m1 : Int)) = true := by rw [beq_iff_eq]; omega
                      by_cases hy0 : 0 < y
                      · have ey0 : decide (0 < y) = true := decide_eq_true hy0
                        by_cases hay : a + 1 = (y : Int)
                        · have eay : (a == ((y : Int) - 1)) = true := by rw [beq_iff_eq]; omega
                          by_cases hj0 : j = 0
                          · have ej0 : (j == 0) = true := by rw [beq_iff_eq]; omega
                            by_cases ht0 : t.size = 0
                            · have et0 : t.toList.isEmpty = true := empty_yes ht0
                              by_cases hu0 : u.size = 0
                              · have eu0 : u.toList.isEmpty = true := empty_yes hu0
                                have ey1 : decide ((0 : Int) < (y : Int)) = true := by rw [decide_eq_true_eq]; omega
                                have hl : c14 = true := by rw [← h14]; simp [hm1, hb1, hy0, hay, hj0, ht0, hu0]
                                subst hl
                                clear h14 hb1 hay hj0 ht0 hu0
                                go_quiet ((go_at_call 40; exact Calls.quiet_of_same (HTw.out _)))
                                go_wp2_with fail
                                go_meet
                                exact ⟨rfl, _, rfl⟩
                              · have eu0 : u.toList.isEmpty = false := empty_no hu0
                                have ey1 : decide ((0 : Int) < (y : Int)) = true := by rw [decide_eq_true_eq]; omega
                                have hl : c14 = false := by rw [← h14]; simp [hm1, hb1, hy0, hay, hj0, ht0, hu0]
                                subst hl
                                clear h14 hb1 hay hj0 ht0 hu0
                                go_quiet ((go_at_call 40; exact Calls.quiet_of_same (HTw.out _)))
                                go_wp2_with fail
                                go_meet
                                exact ⟨rfl, _, rfl⟩
                            · have et0 : t.toList.isEmpty = false := empty_no ht0
                              have ey1 : decide ((0 : Int) < (y : Int)) = true := by rw [decide_eq_true_eq]; omega
                              have hl : c14 = false := by rw [← h14]; simp [hm1, hb1, hy0, hay, hj0, ht0]
                              subst hl
                              clear h14 hb1 hay hj0 ht0
                              go_quiet ((go_at_call 40; exact Calls.quiet_of_same (HTw.out _)))
                              go_wp2_with fail
                              go_meet
                              exact ⟨rfl, _, rfl⟩
                          · have ej0 : (j == 0) = false := by rw [beq_eq_false_iff_ne]; omega
                            have ey1 : decide ((0 : Int) < (y : Int)) = true := by rw [decide_eq_true_eq]; omega
                            have hl : c14 = false := by rw [← h14]; simp [hm1, hb1, hy0, hay, hj0]
                            subst hl
                            clear h14 hb1 hay hj0
                            go_quiet ((go_at_call 40; exact Calls.quiet_of_same (HTw.out _)))
                            go_wp2_with fail
                            go_meet
                            exact ⟨rfl, _, rfl⟩
                        · have eay : (a == ((y : Int) - 1)) = false := by rw [beq_eq_false_iff_ne]; omega
                          have ey1 : decide ((0 : Int) < (y : Int)) = true := by rw [decide_eq_true_eq]; omega
                          have hl : c14 = false := by rw [← h14]; simp [hm1, hb1, hy0, hay]
                          subst hl
                          clear h14 hb1 hay
                          go_quiet ((go_at_call 40; exact Calls.quiet_of_same (HTw.out _)))
                          go_wp2_with fail
                          go_meet
                          exact ⟨rfl, _, rfl⟩
                      · have ey0 : decide (0 < y) = false := decide_eq_false hy0
                        have ey1 : decide ((0 : Int) < (y : Int)) = false := by rw [decide_eq_false_iff_not]; omega
                        have hl : c14 = false := by rw [← h14]; simp [hm1, hb1, hy0]
                        subst hl
                        clear h14 hb1
                        go_quiet ((go_at_call 40; exact Calls.quiet_of_same (HTw.out _)))
                        go_wp2_with fail
                        go_meet
                        exact ⟨rfl, _, rfl⟩
                    · have eb1 : (b == (m1 : Int)) = false := by rw [beq_eq_false_iff_ne]; omega
                      have hl : c14 = false := by rw [← h14]; simp [hm1, hb1]
                      subst hl
                      clear h14 hb1
                      go_quiet ((go_at_call 40; exact Calls.quiet_of_same (HTw.out _)))
                      go_wp2_with fail
                      go_meet
                      exact ⟨rfl, _, rfl⟩
                 case rest =>
                  obtain ⟨rfl, q, rfl⟩ := hcut
                  cases c14 with
                  | true =>
                   as_aux_lemma =>
                    clear h14 k0 k1 kb2 k3 k4 k5 hcl
                    have bq : Below wS.heap.size wS (wS.drewN q) := below_drewN (Below.refl _ _) q
                    replace HOs := Lib.hid (HOs.out.below bq)
                    replace HBs := Lib.hid (below_two HBs.out bq)
                    have hrx2 := RowA.below HRx.out bq
                    have k1 := hrx2.cell (k := 1) (v := .int .i64 a) rfl
                    clear bq hrx2 HRx
                    generalize wS.drewN q = wS at *
                    have hy14 : 0 < y ∧ a + 1 = (y : Int) := by
                     have h := H14.out
                     simp only [Bool.and_eq_true, decide_eq_true_eq] at h
                     exact ⟨h.1.1.1.1.2, h.1.1.1.2⟩
                    obtain ⟨gB2, e2, hcl2⟩ := HOs.out.cell (j := y - 1) (by rw [← HOs.out.1]; omega)
                    cases e2
                    obtain ⟨z, hz⟩ : ∃ z, os.getD (y - 1) 0 = z := ⟨_, rfl⟩
                    have Hz := Lib.hid hz
                    rw [hz] at hcl2
                    clear hz
                    obtain ⟨y1, hy1⟩ : ∃ k, y - 1 = k := ⟨_, rfl⟩
                    rw [hy1] at hcl2
                    have hay : a = (y1 : Int) := by omega
                    have hyl3 : (y1 : Int) < (m : Int) := by omega
                    have HOs0 := HOs
                    have HSt : Hid (stepB os ⟨kk, a, b, j, t, u, p⟩ = some z) := by
                     show _ = _
                     have h := H14.out
                     simp only [Bool.and_eq_true, decide_eq_true_eq] at h
                     obtain ⟨⟨⟨⟨⟨⟨⟨h1, h2⟩, h3⟩, h4⟩, h5⟩, h6⟩, h7⟩, h8⟩ := h
                     have e : os.length = m := HOs0.out.1.symm
                     have e2 : os.getD (y - 1) 0 = z := Hz.out
                     have hk := HK2.out
                     rw [h1] at hk
                     rw [← e2]
                     have h36 := twoK_iff.1 hk
                     refine stepB_two (j := m - 1) (i := y - 1) ?_ hk (by show b = _; omega) (by omega) (by show a = _; omega) (by rw [Hy.out]; omega)
                     unfold fitsN
                     rw [if_neg (by show ¬ kk = 1; omega), if_neg (by show ¬ kk = 2; omega), if_pos (by exact hk), decide_eq_true h6, decide_eq_true h7, decide_eq_true h8]
                     rfl
                    have bl := below_new wS (.cells #[.int .i64 (z : Int)] 3)
                    have HO2 := Lib.hid (HOs.out.2.2.below bl)
                    have HL2 : Hid (RowA (wS.alloc (.cells #[.int .i64 (z : Int)] 3)) wS.heap.size 3 #[.int .i64 (z : Int)] ∧ (#[.int .i64 (z : Int)] : Array Value).size = 1 ∧ ∀ v ∈ (#[.int .i64 (z : Int)] : Array Value), v.oneCell' = true) := ⟨rowA_new _ _ _, rfl, by simp [Value.oneCell']⟩
                    have HE2 : Hid (m ≤ 1000000 ∧ w.heap.size ≤ (wS.alloc (.cells #[.int .i64 (z : Int)] 3)).heap.size) := ⟨by omega, by have := HBs.out.size; simp; omega⟩
                    have HB2 := Lib.hid (below_two HBs.out bl)
                    clear bl HBs
                    go_wp2_with (at_builtin; refine wpList_append_one rfl _ _ 73 rfl w.heap.size 3 1 num_elem _ m d _ rfl HO2 wS.heap.size rfl 3 #[.int .i64 (z : Int)] HL2 HE2 ?_)
                    intro A2 c2 w5 hO5 hg5
                    have HB5 := Lib.hid (below_append HB2.out (Nat.le_refl _) HE2.out.2 HO2.out hg5.out)
                    have HO5 : Hid (NumO w5 w.heap.size A2 (m + 1) c2 (os ++ [z])) := by
                     have h5 := hO5.out
                     obtain ⟨g9, _, _, _, hc9, _⟩ := h5.cells (by omega)
                     refine ⟨by rw [List.length_append, ← HOs.out.1]; rfl, hc9, ?_⟩
                     rw [List.map_append]
                     exact h5
                    have HBe2 : Hid (begT (ts.take (m + 1)) = some (os ++ [z])) := by
                     have h1 := HOs.out.1
                     have h2 := HX.out
                     have h3 := HBe.out
                     have hz := begT_next (i := os.length) (by rw [← h1]; exact h2) (by rw [← h1]; exact h3) HSt.out
                     rw [← h1] at hz
                     exact hz
                    clear hO5 hg5 HO2 HL2 HE2 HB2
                    go_wp2
                    go_roundw
                    case rel => exact ⟨A2, m + 1, c2, os ++ [z], rfl, by first | rfl | (go_num), hlt, HO5, HBe2, HB5⟩
                    case measure => simp [intOf]; omega
                  | false =>
                   as_aux_lemma =>
                    clear h14
                    have HNone : Hid (begT ts = Option.none) := by
                     have h1 := HOs.out.1
                     have h2 := HX.out
                     have h3 := HBe.out
                     rw [h1] at h2 h3
                     refine begT_fall h2 h3 (no_step h1 (begT_low h3) ?_ ?_ ?_ ?_)
                     · have h := H8.out; rw [← HLf.out, ← HLg.out, ← HUn.out] at h; exact h
                     · have h := H10.out; rw [← HLf.out, ← HNm.out] at h; exact h
                     · exact H12.out
                     · have h := H14.out; rw [← HK2.out, ← Hy.out] at h; exact h
                    have HF := Lib.hid (below_drewN HBs.out q)
                    go_wp2
                    go_ret
                    exact ⟨none, 0, 0, rfl, by rw [HNone.out]; exact NumO.nil _ _, HF.out⟩
              · have em1 : decide ((1 : Int) < (m : Int)) = false := decide_eq_false (by omega)
                have em2 : decide (1 < m) = false := decide_eq_false hm1
                as_aux_lemma =>
                 go_upto_region 14 with fail
                 cases k2 with
                 | false =>
                  go_quiet ((go_at_call 40; exact Calls.quiet_of_same (HTw.out _)))
                  have HNone : Hid (begT ts = Option.none) := by
                   have h1 := HOs.out.1
                   have h2 := HX.out
                   have h3 := HBe.out
                   rw [h1] at h2 h3
                   refine begT_fall h2 h3 (no_step h1 (begT_low h3) ?_ ?_ ?_ ?_)
                   · have h := H8.out; rw [← HLf.out, ← HLg.out, ← HUn.out] at h; exact h
                   · have h := H10.out; rw [← HLf.out, ← HNm.out] at h; exact h
                   · exact H12.out
                   · rw [decide_eq_false hm1, Bool.and_false]; rfl
                  have HF := Lib.hid (below_drewN HBs.out nq)
                  go_wp2
                  go_ret
                  exact ⟨none, 0, 0, rfl, by rw [HNone.out]; exact NumO.nil _ _, HF.out⟩
                 | true =>
                  go_quiet ((go_at_call 40; exact Calls.quiet_of_same (HTw.out _)))
                  have HNone : Hid (begT ts = Option.none) := by
                   have h1 := HOs.out.1
                   have h2 := HX.out
                   have h3 := HBe.out
                   rw [h1] at h2 h3
                   refine begT_fall h2 h3 (no_step h1 (begT_low h3) ?_ ?_ ?_ ?_)
                   · have h := H8.out; rw [← HLf.out, ← HLg.out, ← HUn.out] at h; exact h
                   · have h := H10.out; rw [← HLf.out, ← HNm.out] at h; exact h
                   · exact H12.out
                   · rw [decide_eq_false hm1, Bool.and_false]; rfl
                  have HF := Lib.hid (below_drewN HBs.out nq)
                  go_wp2
                  go_ret
                  exact ⟨none, 0, 0, rfl, by rw [HNone.out]; exact NumO.nil _ _, HF.out⟩
  · obtain rfl : m = n := by omega
    have HBf : Hid (begT ts = some os) := by have h := HBe.out; rw [HN.out, List.take_length] at h; exact h
    go_wp2
    go_ret
    exact ⟨B, m, d, rfl, by rw [HBf.out]; exact HO.out, HB.out⟩
end Go.Proofs.YtheaepceghnkpaaGreatDoor

/- What keep.Bare, keep.LargeTree answer, as contracts over memory. Conditions: rows of nodes that can be read. -/
namespace Go.Proofs.YtheaepceghnkpaaGreatDoor
open Go.RowKit Limb
set_option linter.unusedVariables false
end Go.Proofs.YtheaepceghnkpaaGreatDoor

/- What the reference of layer 14 answers (Good, whole, Leaf, Over), as contracts over memory. Conditions: rows of nodes that can be read, at most 10^6 of them, texts of at most 10^6 bytes. -/
namespace Go.Proofs.YtheaepceghnkpaaGreatDoor
open Go.RowKit Limb
set_option linter.unusedVariables false
set_option maxHeartbeats 4000000 in
set_option maxRecDepth 100000 in
theorem rTGood_c {w : World} {A : Option Addr} {n c : Nat} {ts : List Nd} (h : TreR w A n c ts) (hm : Mild ts) (v : Bool) (hv : goodT ts = v) :
 Calls Tryz.prog 17 #[.slice A n c] w fun e w' => e = .returned (.bool v) ∧ Below w.heap.size w w' := by
 obtain ⟨hn, hc, hcm, _⟩ := id h
 have hn6 := hm.1
 rw [← hn] at hn6
 have HBg := Lib.hid (rBegin_c h hm)
 have HN := Lib.hid hn
 clear h hm hn
 by_cases h0 : n < 1
 · rw [goodT_empty (by rw [← HN.out]; exact h0)] at hv
   subst hv
   obtain rfl : n = 0 := by omega
   clear HBg
   go_enter Tryz.func17, Tryz.ntmps17
   go_wp2
   go_ret
   exact ⟨rfl, Below.refl _ _⟩
 · by_cases h2 : 2000 < n
   · rw [goodT_long (by rw [← HN.out]; exact h2)] at hv
     subst hv
     have e1 : decide ((n : Int) < 1) = false := decide_eq_false (by omega)
     have e2 : decide ((2000 : Int) < (n : Int)) = true := decide_eq_true (by omega)
     clear HBg
     go_enter Tryz.func17, Tryz.ntmps17
     go_wp2
     go_ret
     exact ⟨rfl, Below.refl _ _⟩
   · have e1 : decide ((n : Int) < 1) = false := decide_eq_false (by omega)
     have e2 : decide ((2000 : Int) < (n : Int)) = false := decide_eq_false (by omega)
     have HV := Lib.hid hv
     clear hv
     go_enter Tryz.func17, Tryz.ntmps17
     go_wp2_with fail
     refine HBg.out.mono ?_
     rintro e w1 ⟨B, m, d, rfl, hO, bn⟩
     have HO := Lib.hid hO
     have HB := Lib.hid bn
     clear hO bn HBg
     cases hb : begT ts with
     | none =>
      rw [hb] at HO
      have hm0 : m = 0 := HO.out.1
      subst hm0
      have HV0 : Hid (v = false) := by show _ = _; rw [← HV.out]; exact goodT_no hb
      have em : ((0 : Int) == (n : Int)) = false := by rw [beq_eq_false_iff_ne]; omega
      clear hb
      go_wp2
      go_ret
      exact ⟨by rw [HV0.out]; rfl, HB.out⟩
     | some os =>
      rw [hb] at HO
      have HO2 : Hid (NumO w1 w.heap.size B m d os) := HO.out
      have hol := begT_len hb
      have hmn : m = n := by rw [HO2.out.1, HN.out, hol]
      subst hmn
      obtain ⟨j, hj⟩ : ∃ j, m = j + 1 := ⟨m - 1, by omega⟩
      obtain ⟨gB, rfl, hcl⟩ := HO2.out.cell (j := j) (by rw [hol, ← HN.out]; omega)
      obtain ⟨z, hz⟩ : ∃ z, os.getD j 0 = z := ⟨_, rfl⟩
      rw [hz] at hcl
      have hv2 : v = decide (z = 0) := by
       rw [← HV.out, goodT_of hb (by rw [← HN.out]; omega) (by rw [← HN.out]; omega), ← HN.out, hj, Nat.add_sub_cancel, ← hz]
       congr 2
       rw [List.getD_eq_getElem?_getD, List.getD_eq_getElem?_getD, List.getElem?_eq_getElem (by rw [hol, ← HN.out]; omega)]
       rfl
      have ez : ((z : Int) == 0) = v := by rw [hv2, Bool.eq_iff_iff, beq_iff_eq, decide_eq_true_eq]; omega
      have hw1 : (m : Int) - 1 = (j : Int) := by omega
      have hjl : (j : Int) < (m : Int) := by omega
      clear hb hol hz hv2 HO HO2 hj
      go_wp2
      go_ret
      exact ⟨rfl, HB.out⟩
end Go.Proofs.YtheaepceghnkpaaGreatDoor
