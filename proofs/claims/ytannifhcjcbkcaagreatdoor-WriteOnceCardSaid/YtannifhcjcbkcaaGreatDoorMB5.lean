/- Part 5 of the texts that the statements of this seat lean on: mathematics, and what functions answer, as contracts over memory; each part says its own conditions. -/
import Derived.Test.YtannifhcjcbkcaaGreatDoorMB4
set_option linter.unusedVariables false
set_option maxHeartbeats 8000000
namespace Go.Proofs.YtannifhcjcbkcaaGreatDoor
open Go.RowKit Limb
open Lib (hid)
set_option maxRecDepth 100000 in
theorem kDecl_c {w : World} {k k2 pl pl2 at1 at2 : Int} {nm nm2 ot ot2 nu nu2 va va2 un un2 : ByteArray} {A B : Option Addr} {n c m d : Nat} {ts us : List Nd} (h1 : TreR w A n c ts) (h2 : TreR w B m d us) (v : Bool) (hv : (decide (k = k2) && decide (nm = nm2) && decide (ot = ot2) && decide (nu = nu2) && decide (va = va2) && decide (un = un2) && eqT ts us && decide (pl = pl2) && decide (at1 = at2)) = v) :
 Calls Tryz.prog 47 #[.agg (dcC k nm ot nu va un A n c pl at1), .agg (dcC k2 nm2 ot2 nu2 va2 un2 B m d pl2 at2)] w fun e w' => e = .returned (.bool v) ∧ Below w.heap.size w w' := by
 obtain ⟨tb, htb⟩ : ∃ b, eqT ts us = b := ⟨_, rfl⟩;have HTb := hid htb;rw [htb] at hv;clear htb;have bw := zqc w;have h_rx := xqd w 62 (dcC k nm ot nu va un A n c pl at1);have bn := xqc w (.cells (dcC k nm ot nu va un A n c pl at1) 62);replace h1 := h1.below bn;replace h2 := h2.below bn;replace bw := xqa bw bn;clear bn;have h_ry := xqd (w.alloc (.cells (dcC k nm ot nu va un A n c pl at1) 62)) 62 (dcC k2 nm2 ot2 nu2 va2 un2 B m d pl2 at2);have bn := xqc (w.alloc (.cells (dcC k nm ot nu va un A n c pl at1) 62)) (.cells (dcC k2 nm2 ot2 nu2 va2 un2 B m d pl2 at2) 62);replace h1 := h1.below bn;replace h2 := h2.below bn;replace h_rx := h_rx.below bn;replace bw := xqa bw bn;clear bn;simp only [World.size_alloc] at h_ry;go_enter Tryz.func47, Tryz.ntmps47
 go_upto_region 1 with fail
 generalize (w.alloc (.cells (dcC k nm ot nu va un A n c pl at1) 62)).alloc (.cells (dcC k2 nm2 ot2 nu2 va2 un2 B m d pl2 at2) 62) = w1 at *;obtain ⟨q_y, eg⟩ : ∃ g, g = w.heap.size + 1 := ⟨_, rfl⟩;have hqy : Hid (w.heap.size ≤ q_y) := by show _ ≤ _; omega
 rw [← eg] at h_ry ⊢;have e_y := eg;clear eg;obtain ⟨q_x, eg⟩ : ∃ g, g = w.heap.size := ⟨_, rfl⟩;have hqx : Hid (w.heap.size ≤ q_x) := by show _ ≤ _; omega
 rw [← eg] at h_rx ⊢;have e_x := eg;clear eg;have hne_x_y : Hid (q_x ≠ q_y) := by show _ ≠ _; omega
 clear e_x e_y;have HX := hid h_rx;have HY := hid h_ry;have H1 := hid h1;have H2 := hid h2;have HB := hid bw;clear h1 h2 bw hqx hqy hne_x_y;have x0 := h_rx.cell (k := 0) (v := .int .i64 k) rfl;have x1 := h_rx.cell (k := 1) (v := .string nm) rfl;have x2 := h_rx.cell (k := 2) (v := .string ot) rfl;have x3 := h_rx.cell (k := 3) (v := .string nu) rfl;have x4 := h_rx.cell (k := 4) (v := .string va) rfl;have x5 := h_rx.cell (k := 5) (v := .string un) rfl;have x6 := h_rx.cell (k := 6) (v := .slice A n c) rfl;have x7 := h_rx.cell (k := 7) (v := .int .i64 pl) rfl;have x8 := h_rx.cell (k := 8) (v := .int .i64 at1) rfl;have y0 := h_ry.cell (k := 0) (v := .int .i64 k2) rfl;have y1 := h_ry.cell (k := 1) (v := .string nm2) rfl;have y2 := h_ry.cell (k := 2) (v := .string ot2) rfl;have y3 := h_ry.cell (k := 3) (v := .string nu2) rfl;have y4 := h_ry.cell (k := 4) (v := .string va2) rfl;have y5 := h_ry.cell (k := 5) (v := .string un2) rfl;have y6 := h_ry.cell (k := 6) (v := .slice B m d) rfl;have y7 := h_ry.cell (k := 7) (v := .int .i64 pl2) rfl;have y8 := h_ry.cell (k := 8) (v := .int .i64 at2) rfl;clear h_rx h_ry;by_cases h0 : k = k2
 · subst h0;by_cases h1 : nm = nm2
   · subst h1;by_cases h2 : ot = ot2
     · subst h2;by_cases h3 : nu = nu2
       · subst h3;by_cases h4 : va = va2
         · subst h4;by_cases h5 : un = un2
           · subst h5;cases tb with
             | false =>
              obtain rfl : v = false := by rw [← hv]; simp
              clear hv;go_wp2_with (go_at_call 16; (with_reducible refine (kTree_c H1.out H2.out _ HTb.out).mono ?_); rintro e wx ⟨rfl, bn⟩; have HB2 := hid (xqa HB.out bn); have hX := HX.out.below bn; have hY := HY.out.below bn; have x7 := hX.cell (k := 7) (v := .int .i64 pl) rfl; have x8 := hX.cell (k := 8) (v := .int .i64 at1) rfl; have y7 := hY.cell (k := 7) (v := .int .i64 pl2) rfl; have y8 := hY.cell (k := 8) (v := .int .i64 at2) rfl; clear hX hY bn);go_ret
              exact ⟨rfl, HB2.out⟩
             | true =>
              by_cases h7 : pl = pl2
              · subst h7;by_cases h8 : at1 = at2
                · subst h8;obtain rfl : v = true := by rw [← hv]; simp
                  clear hv;go_wp2_with (go_at_call 16; (with_reducible refine (kTree_c H1.out H2.out _ HTb.out).mono ?_); rintro e wx ⟨rfl, bn⟩; have HB2 := hid (xqa HB.out bn); have hX := HX.out.below bn; have hY := HY.out.below bn; have x7 := hX.cell (k := 7) (v := .int .i64 pl) rfl; have x8 := hX.cell (k := 8) (v := .int .i64 at1) rfl; have y7 := hY.cell (k := 7) (v := .int .i64 pl) rfl; have y8 := hY.cell (k := 8) (v := .int .i64 at1) rfl; clear hX hY bn);go_ret
                  exact ⟨rfl, HB2.out⟩
                · have e8 : (at1 == at2) = false := by rw [beq_eq_false_iff_ne]; exact h8
                  obtain rfl : v = false := by rw [← hv]; simp [h8]
                  clear hv;go_wp2_with (go_at_call 16; (with_reducible refine (kTree_c H1.out H2.out _ HTb.out).mono ?_); rintro e wx ⟨rfl, bn⟩; have HB2 := hid (xqa HB.out bn); have hX := HX.out.below bn; have hY := HY.out.below bn; have x7 := hX.cell (k := 7) (v := .int .i64 pl) rfl; have x8 := hX.cell (k := 8) (v := .int .i64 at1) rfl; have y7 := hY.cell (k := 7) (v := .int .i64 pl) rfl; have y8 := hY.cell (k := 8) (v := .int .i64 at2) rfl; clear hX hY bn);go_ret
                  exact ⟨rfl, HB2.out⟩
              · have e7 : (pl == pl2) = false := by rw [beq_eq_false_iff_ne]; exact h7
                obtain rfl : v = false := by rw [← hv]; simp [h7]
                clear hv;go_wp2_with (go_at_call 16; (with_reducible refine (kTree_c H1.out H2.out _ HTb.out).mono ?_); rintro e wx ⟨rfl, bn⟩; have HB2 := hid (xqa HB.out bn); have hX := HX.out.below bn; have hY := HY.out.below bn; have x7 := hX.cell (k := 7) (v := .int .i64 pl) rfl; have x8 := hX.cell (k := 8) (v := .int .i64 at1) rfl; have y7 := hY.cell (k := 7) (v := .int .i64 pl2) rfl; have y8 := hY.cell (k := 8) (v := .int .i64 at2) rfl; clear hX hY bn);go_ret
                exact ⟨rfl, HB2.out⟩
           · have e5 : (un.toList == un2.toList) = false := yj0 h5;obtain rfl : v = false := by rw [← hv]; simp [h5]
             clear hv;go_wp2_with fail
             go_ret
             exact ⟨rfl, HB.out⟩
         · have e4 : (va.toList == va2.toList) = false := yj0 h4;obtain rfl : v = false := by rw [← hv]; simp [h4]
           clear hv;go_wp2_with fail
           go_ret
           exact ⟨rfl, HB.out⟩
       · have e3 : (nu.toList == nu2.toList) = false := yj0 h3;obtain rfl : v = false := by rw [← hv]; simp [h3]
         clear hv;go_wp2_with fail
         go_ret
         exact ⟨rfl, HB.out⟩
     · have e2 : (ot.toList == ot2.toList) = false := yj0 h2;obtain rfl : v = false := by rw [← hv]; simp [h2]
       clear hv;go_wp2_with fail
       go_ret
       exact ⟨rfl, HB.out⟩
   · have e1 : (nm.toList == nm2.toList) = false := yj0 h1;obtain rfl : v = false := by rw [← hv]; simp [h1]
     clear hv;go_wp2_with fail
     go_ret
     exact ⟨rfl, HB.out⟩
 · have e0 : (k == k2) = false := by rw [beq_eq_false_iff_ne]; exact h0
   obtain rfl : v = false := by rw [← hv]; simp [h0]
   clear hv;go_wp2_with fail
   go_ret
   exact ⟨rfl, HB.out⟩
set_option maxRecDepth 100000 in
theorem kScript_c {w : World} {A B : Option Addr} {n c m0 d : Nat} {ds es : List Dc} (h1 : DcR w A n c ds) (h2 : DcR w B m0 d es) (v : Bool) (hv : eqDs ds es = v) :
 Calls Tryz.prog 15 #[.slice A n c, .slice B m0 d] w fun e w' => e = .returned (.bool v) ∧ Below w.heap.size w w' := by
 have hn := h1.len;have hn2 := h2.len;have hc : n ≤ c ∧ c ≤ maxLen := by obtain ⟨_, _, _, a, b, _⟩ := h1; exact ⟨a, b⟩
 have hc2 : m0 ≤ d ∧ d ≤ maxLen := by obtain ⟨_, _, _, a, b, _⟩ := h2; exact ⟨a, b⟩
 obtain ⟨hc, hcm⟩ := hc;obtain ⟨hc2, hcm2⟩ := hc2;have H1 := hid h1;have H2 := hid h2;have HN1 := hid hn;have HN2 := hid hn2;have HV := hid hv;clear h1 h2 hn hn2 hv;have eq1 : maxLen = 9223372036854775807 := rfl;by_cases hl : n = m0
 · subst hl;go_enter Tryz.func15, Tryz.ntmps15;go_wp2
   go_loopw [5] (fun i wr => ∃ k0 : Nat, i = .int .i64 (k0 : Int) ∧ k0 ≤ n ∧ Hid (eqDs (ds.take k0) (es.take k0) = true) ∧ Hid (Below w.heap.size w wr)) (fun i _ => n - (intOf i).toNat)
   case atStart => exact ⟨0, rfl, Nat.zero_le _, rfl, Below.refl _ _⟩
   case round =>
    obtain ⟨k0, rfl, hk, HP, HB⟩ := hrel;by_cases hlt : k0 < n
    · skip
      obtain ⟨x, hx⟩ : ∃ x, ds[k0]? = some x := ⟨_, List.getElem?_eq_getElem (by rw [← HN1.out]; exact hlt)⟩;obtain ⟨y, hy⟩ : ∃ y, es[k0]? = some y := ⟨_, List.getElem?_eq_getElem (by rw [← HN2.out]; exact hlt)⟩;have HX := hid hx;have HY := hid hy;obtain ⟨g, og, A1, q1, c1, nm1, ot1, nu1, va1, un1, rfl, hg, hin, ht1, u1, u2, u3, u4, u5⟩ := (H1.out.below HB.out).at2 hx;obtain ⟨g2, og2, A2, q2, c2, nm2, ot2, nu2, va2, un2, rfl, hg2, hin2, ht2, v1, v2, v3, v4, v5⟩ := (H2.out.below HB.out).at2 hy;obtain ⟨eq, heq⟩ : ∃ b, eqD x y = b := ⟨_, rfl⟩;have HEq := hid heq;unfold eqD at heq;rw [u1, u2, u3, u4, u5, v1, v2, v3, v4, v5] at heq;have HQ := hid heq;have HT1 := hid ht1;have HT2 := hid ht2;have HI_1 : Hid (InV wr g (og + k0 * 9) (dcC x.k nm1 ot1 nu1 va1 un1 A1 q1 c1 x.pl x.at')) := hin;have HI_2 : Hid (InV wr g2 (og2 + k0 * 9) (dcC y.k nm2 ot2 nu2 va2 un2 A2 q2 c2 y.pl y.at')) := hin2;have HG1 := hid hg;have HG2 := hid hg2;have HM_1 := hid (xq3 x.k nm1 ot1 nu1 va1 un1 A1 q1 c1 x.pl x.at');have HM_2 := hid (xq3 y.k nm2 ot2 nu2 va2 un2 A2 q2 c2 y.pl y.at');clear hx hy hin hin2 hg hg2 heq ht1 ht2 u1 u2 u3 u4 u5 v1 v2 v3 v4 v5;go_wp2
      generalize wr = wS at *;have g1 : (k0 : Int) < (n : Int) := by omega
      cases eq with
      | false =>
       have HV0 : Hid (v = false) := by show _ = _; rw [← HV.out]; exact eqDs_bad HX.out HY.out HEq.out
       refine xj2 10 0 8 [17, 18, 19, 20, 21, 22, 23, 24, 25, 26] ?aF1 (fun wx => Below wS.heap.size wS wx) (fun k vv wx => match k with
        | 0 => vv = .slice (some ⟨g, og, none⟩) n c
        | 1 => vv = .int .i64 (k0 : Int)
        | 2 => vv = .pointer (some ⟨g, og + k0 * 9, none⟩)
        | 3 => vv = .agg (dcC x.k nm1 ot1 nu1 va1 un1 A1 q1 c1 x.pl x.at')
        | 4 => vv = .slice (some ⟨g2, og2, none⟩) n d
        | 5 => vv = .int .i64 (k0 : Int)
        | 6 => vv = .pointer (some ⟨g2, og2 + k0 * 9, none⟩)
        | 7 => vv = .agg (dcC y.k nm2 ot2 nu2 va2 un2 A2 q2 c2 y.pl y.at')
        | 8 => vv = .bool false
        | _ => vv = .bool true)
        (fun k => false) (by kernel_rfl) ?haF1 rfl (by kernel_rfl) (by kernel_rfl) (fun _ _ _ _ _ h => h) ?hSb1 ?hPb1 ?hS1 ?hop1 ?hfin1
       case haF1 =>
        intro vals;simp only [xqx, List.getElem?_cons_zero, List.getElem?_cons_succ, Act.put, List.setIfInBounds_toArray, List.set_cons_zero, List.set_cons_succ];exact rfl
       case hSb1 => exact fun wx w2 hb hS => xqa hS hb
       case hPb1 =>
        intro k v wa wb hb h
        match k, h with
        | 0, h => exact h
        | 1, h => exact h
        | 2, h => exact h
        | 3, h => exact h
        | 4, h => exact h
        | 5, h => exact h
        | 6, h => exact h
        | 7, h => exact h
        | 8, h => exact h
        | _ + 9, h => exact h
       case hS1 => exact (Below.refl _ _).drew
       case hop1 =>
        refine .cons (k := 0) (.plain rfl ?_) (.cons (k := 1) (.plain rfl ?_) (.cons (k := 2) (.plain rfl ?_) (.cons (k := 3) (.plain rfl ?_) (.cons (k := 4) (.plain rfl ?_) (.cons (k := 5) (.plain rfl ?_) (.cons (k := 6) (.plain rfl ?_) (.cons (k := 7) (.plain rfl ?_) (.cons (k := 8) (.plain rfl ?_) (.cons (k := 9) (.plain rfl ?_) (.nil))))))))))
        all_goals intro vals wr hS hd KC hK
        all_goals (show Oper.wp _ _ _ _ _ _; dsimp only)
        · go_simp;refine hK _ _ rfl (Below.refl _ _) (by first | rfl | simp) (fun h => by cases h)
        · go_simp;refine hK _ _ rfl (Below.refl _ _) (by first | rfl | simp) (fun h => by cases h)
        · have d0 : vals 0 = _ := hd 0 (by decide +kernel);have d1 : vals 1 = _ := hd 1 (by decide +kernel);rw [d0, d1];go_simp;refine hK _ _ rfl (Below.refl _ _) (by first | rfl | simp) (fun h => by cases h)
        · have d2 : vals 2 = _ := hd 2 (by decide +kernel);rw [d2];refine xq1 62 _ rfl _ _ rfl (dcC x.k nm1 ot1 nu1 va1 un1 A1 q1 c1 x.pl x.at') (hid HI_1.out.below HG1.out hS) (hid HM_1.out) ?_;refine hK _ _ rfl (Below.refl _ _) (by first | rfl | simp) (fun h => by cases h)
        · go_simp;refine hK _ _ rfl (Below.refl _ _) (by first | rfl | simp) (fun h => by cases h)
        · go_simp;refine hK _ _ rfl (Below.refl _ _) (by first | rfl | simp) (fun h => by cases h)
        · have d4 : vals 4 = _ := hd 4 (by decide +kernel);have d5 : vals 5 = _ := hd 5 (by decide +kernel);rw [d4, d5];go_simp;refine hK _ _ rfl (Below.refl _ _) (by first | rfl | simp) (fun h => by cases h)
        · have d6 : vals 6 = _ := hd 6 (by decide +kernel);rw [d6];refine xq1 62 _ rfl _ _ rfl (dcC y.k nm2 ot2 nu2 va2 un2 A2 q2 c2 y.pl y.at') (hid HI_2.out.below HG2.out hS) (hid HM_2.out) ?_;refine hK _ _ rfl (Below.refl _ _) (by first | rfl | simp) (fun h => by cases h)
        · have d3 : vals 3 = _ := hd 3 (by decide +kernel);have d7 : vals 7 = _ := hd 7 (by decide +kernel);rw [d3, d7];go_simp;go_at_call 47
          with_reducible refine (kDecl_c (HT1.out.below hS) (HT2.out.below hS) false HQ.out).mono ?_
          rintro e w2 ⟨rfl, bn_r⟩;refine hK _ _ rfl bn_r rfl (fun h => by cases h)
        · have d8 : vals 8 = _ := hd 8 (by decide +kernel);rw [d8];go_simp;refine hK _ _ rfl (Below.refl _ _) (by first | rfl | simp) (fun h => by cases h)
       case hfin1 =>
        intro vals wr hS hP hne;have ez_9 : vals 9 = _ := hP 9 (by decide)
        try dsimp only
        rw [ez_9];refine wpAny_done (by kernel_rfl) ?_ _;have HB2 := hid (xqa HB.out hS);clear hS hP hne;go_wp2
        go_ret
        exact ⟨by rw [HV0.out]; rfl, HB2.out⟩
      | true =>
       have HP2 : Hid (eqDs (ds.take (k0 + 1)) (es.take (k0 + 1)) = true) := eqDs_take HX.out HY.out HP.out HEq.out;clear HP
       refine xj2 10 0 8 [17, 18, 19, 20, 21, 22, 23, 24, 25, 26] ?aF2 (fun wx => Below wS.heap.size wS wx) (fun k vv wx => match k with
        | 0 => vv = .slice (some ⟨g, og, none⟩) n c
        | 1 => vv = .int .i64 (k0 : Int)
        | 2 => vv = .pointer (some ⟨g, og + k0 * 9, none⟩)
        | 3 => vv = .agg (dcC x.k nm1 ot1 nu1 va1 un1 A1 q1 c1 x.pl x.at')
        | 4 => vv = .slice (some ⟨g2, og2, none⟩) n d
        | 5 => vv = .int .i64 (k0 : Int)
        | 6 => vv = .pointer (some ⟨g2, og2 + k0 * 9, none⟩)
        | 7 => vv = .agg (dcC y.k nm2 ot2 nu2 va2 un2 A2 q2 c2 y.pl y.at')
        | 8 => vv = .bool true
        | _ => vv = .bool false)
        (fun k => false) (by kernel_rfl) ?haF2 rfl (by kernel_rfl) (by kernel_rfl) (fun _ _ _ _ _ h => h) ?hSb2 ?hPb2 ?hS2 ?hop2 ?hfin2
       case haF2 =>
        intro vals;simp only [xqx, List.getElem?_cons_zero, List.getElem?_cons_succ, Act.put, List.setIfInBounds_toArray, List.set_cons_zero, List.set_cons_succ];exact rfl
       case hSb2 => exact fun wx w2 hb hS => xqa hS hb
       case hPb2 =>
        intro k v wa wb hb h
        match k, h with
        | 0, h => exact h
        | 1, h => exact h
        | 2, h => exact h
        | 3, h => exact h
        | 4, h => exact h
        | 5, h => exact h
        | 6, h => exact h
        | 7, h => exact h
        | 8, h => exact h
        | _ + 9, h => exact h
       case hS2 => exact (Below.refl _ _).drew
       case hop2 =>
        refine .cons (k := 0) (.plain rfl ?_) (.cons (k := 1) (.plain rfl ?_) (.cons (k := 2) (.plain rfl ?_) (.cons (k := 3) (.plain rfl ?_) (.cons (k := 4) (.plain rfl ?_) (.cons (k := 5) (.plain rfl ?_) (.cons (k := 6) (.plain rfl ?_) (.cons (k := 7) (.plain rfl ?_) (.cons (k := 8) (.plain rfl ?_) (.cons (k := 9) (.plain rfl ?_) (.nil))))))))))
        all_goals intro vals wr hS hd KC hK
        all_goals (show Oper.wp _ _ _ _ _ _; dsimp only)
        · go_simp;refine hK _ _ rfl (Below.refl _ _) (by first | rfl | simp) (fun h => by cases h)
        · go_simp;refine hK _ _ rfl (Below.refl _ _) (by first | rfl | simp) (fun h => by cases h)
        · have d0 : vals 0 = _ := hd 0 (by decide +kernel);have d1 : vals 1 = _ := hd 1 (by decide +kernel);rw [d0, d1];go_simp;refine hK _ _ rfl (Below.refl _ _) (by first | rfl | simp) (fun h => by cases h)
        · have d2 : vals 2 = _ := hd 2 (by decide +kernel);rw [d2];refine xq1 62 _ rfl _ _ rfl (dcC x.k nm1 ot1 nu1 va1 un1 A1 q1 c1 x.pl x.at') (hid HI_1.out.below HG1.out hS) (hid HM_1.out) ?_;refine hK _ _ rfl (Below.refl _ _) (by first | rfl | simp) (fun h => by cases h)
        · go_simp;refine hK _ _ rfl (Below.refl _ _) (by first | rfl | simp) (fun h => by cases h)
        · go_simp;refine hK _ _ rfl (Below.refl _ _) (by first | rfl | simp) (fun h => by cases h)
        · have d4 : vals 4 = _ := hd 4 (by decide +kernel);have d5 : vals 5 = _ := hd 5 (by decide +kernel);rw [d4, d5];go_simp;refine hK _ _ rfl (Below.refl _ _) (by first | rfl | simp) (fun h => by cases h)
        · have d6 : vals 6 = _ := hd 6 (by decide +kernel);rw [d6];refine xq1 62 _ rfl _ _ rfl (dcC y.k nm2 ot2 nu2 va2 un2 A2 q2 c2 y.pl y.at') (hid HI_2.out.below HG2.out hS) (hid HM_2.out) ?_;refine hK _ _ rfl (Below.refl _ _) (by first | rfl | simp) (fun h => by cases h)
        · have d3 : vals 3 = _ := hd 3 (by decide +kernel);have d7 : vals 7 = _ := hd 7 (by decide +kernel);rw [d3, d7];go_simp;go_at_call 47
          with_reducible refine (kDecl_c (HT1.out.below hS) (HT2.out.below hS) true HQ.out).mono ?_
          rintro e w2 ⟨rfl, bn_r⟩;refine hK _ _ rfl bn_r rfl (fun h => by cases h)
        · have d8 : vals 8 = _ := hd 8 (by decide +kernel);rw [d8];go_simp;refine hK _ _ rfl (Below.refl _ _) (by first | rfl | simp) (fun h => by cases h)
       case hfin2 =>
        intro vals wr hS hP hne;have ez_9 : vals 9 = _ := hP 9 (by decide)
        try dsimp only
        rw [ez_9];refine wpAny_done (by kernel_rfl) ?_ _;have HB2 := hid (xqa HB.out hS);clear hS hP hne;go_wp2
        go_roundw
        case rel => exact ⟨k0 + 1, by go_num, hlt, HP2, HB2⟩
        case measure => simp [intOf]; omega
    · obtain rfl : n = k0 := by omega
      have HV1 : Hid (v = true) := by
       show _ = _;rw [← HV.out];have h := HP.out;rw [List.take_of_length_le (by rw [← HN1.out]; exact Nat.le_refl _), List.take_of_length_le (by rw [← HN2.out]; exact Nat.le_refl _)] at h;exact h
      go_wp2
      go_ret
      exact ⟨by rw [HV1.out]; rfl, HB.out⟩
 · have HV0 : Hid (v = false) := by
    show _ = _;rw [← HV.out];exact eqDs_no (by rw [← HN1.out, ← HN2.out]; exact hl)
   have e0 : ((n : Int) != (m0 : Int)) = true := by rw [bne_iff_ne]; omega
   go_enter Tryz.func15, Tryz.ntmps15;go_wp2
   go_ret
   exact ⟨by rw [HV0.out]; rfl, Below.refl _ _⟩
theorem OwnR.differ {w : World} {B sz n c g : Nat} {e T : TypeId} {A : Option Addr} {xs : List Value} {V : Array Value} (h : OwnR w B e sz A n c xs) (hr : RowA w g T V) (ht : T ≠ e) : Value.ownBlock (.slice A n c) ≠ some g := by
 rcases h.2 with ⟨hv, h0⟩ | ⟨g2, cap, cur, hv, hB, hg, _⟩
 · rw [hv]; intro h; cases h
 · rw [hv];intro e2;have e3 : g2 = g := by injection e2
   subst e3;unfold RowA at hr;have h1 := hg.symm.trans hr;injection h1 with h1
   injection h1 with _ h2 _
   exact ht h2.symm
theorem OwnR.over {w w' : World} {B sz n c : Nat} {e : TypeId} {A : Option Addr} {xs : List Value} {r : Option Nat} (h : OwnR w B e sz A n c xs) (hg : w.grownBy w' r) (hr : ∀ q, r = some q → Value.ownBlock (.slice A n c) ≠ some q) : OwnR w' B e sz A n c xs := by
 refine ⟨h.1, ?_⟩;rcases h.2 with h1 | ⟨g, cap, cur, hv, hB, hgc, hrest⟩
 · exact .inl h1
 · refine .inr ⟨g, cap, cur, hv, hB, ?_, hrest⟩;have hlt : g < w.heap.size := by
    rcases Nat.lt_or_ge g w.heap.size with h | h
    · exact h
    · rw [Array.getElem?_eq_none h] at hgc; cases hgc
   rw [← hgc];refine hg.block g hlt fun e2 => hr g e2.symm ?_
   rw [hv]; rfl
def OwnX (w : World) (A : Option Addr) (n c : Nat) (ts : List Nd) : Prop := ∃ B, OwnT w B A n c ts
theorem OwnT.x {w : World} {B n c : Nat} {A : Option Addr} {ts : List Nd} (h : OwnT w B A n c ts) : OwnX w A n c ts := ⟨B, h⟩
theorem OwnX.tree {w : World} {n c : Nat} {A : Option Addr} {ts : List Nd} (h : OwnX w A n c ts) : TreR w A n c ts := by obtain ⟨B, h⟩ := h; exact h.tree
theorem OwnX.below {w w' : World} {n c : Nat} {A : Option Addr} {ts : List Nd} (h : OwnX w A n c ts) (hb : Below w.heap.size w w') : OwnX w' A n c ts := by obtain ⟨B, h⟩ := h; exact ⟨B, h.below hb⟩
theorem OwnX.over {w w' : World} {n c g : Nat} {A : Option Addr} {ts : List Nd} {T : TypeId} {V : Array Value} (h : OwnX w A n c ts) (hr : RowA w g T V) (ht : T ≠ 51) (hg : w.grownBy w' (some g)) : OwnX w' A n c ts := by
 obtain ⟨B, h1, h2⟩ := h;exact ⟨B, h1, h2.over hg fun q hq => by injection hq with hq; subst hq; exact h2.differ hr ht⟩
theorem OwnX.nil (w : World) : OwnX w none 0 0 [] := ⟨0, rfl, OwnR.nil _ _ _ _⟩
def DsO (w : World) (xs : List DS) : Prop := ∀ x ∈ xs, OwnX w x.A x.n x.c x.d.tr
theorem DsO.below {w w' : World} {xs : List DS} (h : DsO w xs) (hb : Below w.heap.size w w') : DsO w' xs := fun x hx => (h x hx).below hb
theorem DsO.over {w w' : World} {xs : List DS} {g : Nat} {T : TypeId} {V : Array Value} (h : DsO w xs) (hr : RowA w g T V) (ht : T ≠ 51) (hg : w.grownBy w' (some g)) : DsO w' xs := fun x hx => (h x hx).over hr ht hg
theorem DsO.dsr {w : World} {xs : List DS} (h : DsO w xs) : DsR w xs := fun x hx => (h x hx).tree
theorem DsO.snoc {w : World} {xs : List DS} (h : DsO w xs) {x : DS} (hx : OwnX w x.A x.n x.c x.d.tr) : DsO w (xs ++ [x]) := fun y hy => by
 rcases List.mem_append.1 hy with hy | hy
 · exact h y hy
 · rw [List.mem_singleton.1 hy]; exact hx
theorem OwnD.rowA {w : World} {B n c : Nat} {A : Option Addr} {xs : List DS} (h : OwnD w B A n c xs) {g : Nat} (hg : Value.ownBlock (.slice A n c) = some g) : ∃ V, RowA w g 62 V := by
 rcases h.2.2 with ⟨hv, h0⟩ | ⟨g2, cap, cur, hv, hB, hgc, _⟩
 · rw [hv] at hg; cases hg
 · rw [hv] at hg;have e3 : g2 = g := by injection hg
   subst e3;exact ⟨cur, hgc⟩
theorem td_tn : 62 ≠ 51 := by decide
theorem DsO.grown {w w' : World} {B n c : Nat} {A : Option Addr} {xs ys : List DS} (h : DsO w ys) (ho : OwnD w B A n c xs) (hg : w.grownBy w' (Value.ownBlock (.slice A n c))) : DsO w' ys := by
 intro y hy;obtain ⟨B2, h1, h2⟩ := h y hy;refine ⟨B2, h1, h2.over hg fun q hq => ?_⟩;obtain ⟨V, hr⟩ := ho.rowA hq;exact h2.differ hr td_tn
theorem OwnX.grown {w w' : World} {B n c m d : Nat} {A C : Option Addr} {xs : List DS} {ts : List Nd} (h : OwnX w C m d ts) (ho : OwnD w B A n c xs) (hg : w.grownBy w' (Value.ownBlock (.slice A n c))) : OwnX w' C m d ts := by
 obtain ⟨B2, h1, h2⟩ := h;refine ⟨B2, h1, h2.over hg fun q hq => ?_⟩;obtain ⟨V, hr⟩ := ho.rowA hq;exact h2.differ hr td_tn
theorem xqs (w : World) (g k : Nat) (v : Value) : w.grownBy (w.setCell ⟨g, k, none⟩ v) (some g) :=
 ⟨rfl, rfl, rfl, by simp, fun i _ hr => Below.heap_setCell w _ v i (fun e => hr (by subst e; rfl))⟩
theorem DsO.set {w : World} {B n c g k : Nat} {xs ys : List DS} {v : Value} (h : DsO w ys) (ho : OwnD w B (some ⟨g, 0, none⟩) n c xs) : DsO (w.setCell ⟨g, k, none⟩ v) ys := by
 obtain ⟨V, hr⟩ := ho.rowA (g := g) rfl;exact h.over hr td_tn (xqs w g k v)
theorem OwnX.set {w : World} {B n c g k m d : Nat} {A : Option Addr} {xs : List DS} {ts : List Nd} {v : Value} (h : OwnX w A m d ts) (ho : OwnD w B (some ⟨g, 0, none⟩) n c xs) : OwnX (w.setCell ⟨g, k, none⟩ v) A m d ts := by
 obtain ⟨V, hr⟩ := ho.rowA (g := g) rfl;exact h.over hr td_tn (xqs w g k v)
theorem map_set_step {ts : List Nd} {f : Nd → Nd} {i : Nat} {x : Nd} (hx : ts[i]? = some x) : ((ts.take i).map f ++ ts.drop i).set i (f x) = (ts.take (i + 1)).map f ++ ts.drop (i + 1) := by
 have hi := (List.getElem?_eq_some_iff.1 hx).1;have h2 : ((ts.take i).map f).length = i := by simp; omega
 rw [List.set_append_right (h := by rw [h2]; exact Nat.le_refl _), h2, Nat.sub_self, List.drop_eq_getElem_cons hi, List.set_cons_zero, List.take_add_one, hx]
 simp
theorem map_at_step {ts : List Nd} {f : Nd → Nd} {i : Nat} {x : Nd} (hx : ts[i]? = some x) : ((ts.take i).map f ++ ts.drop i)[i]? = some x := by
 have hi := (List.getElem?_eq_some_iff.1 hx).1;have h2 : ((ts.take i).map f).length = i := by simp; omega
 rw [List.getElem?_append_right (by rw [h2]; exact Nat.le_refl _), h2, Nat.sub_self, List.drop_eq_getElem_cons hi, List.getElem?_cons_zero, (List.getElem?_eq_some_iff.1 hx).2]
def atL (p : Int) (ts : List Nd) (i : Nat) : List Nd := (ts.take i).map (fun x => { x with p := p }) ++ ts.drop i
theorem atL_zero (p : Int) (ts : List Nd) : atL p ts 0 = ts := by simp [atL]
theorem atL_all (p : Int) (ts : List Nd) : atL p ts ts.length = ts.map (fun x => { x with p := p }) := by simp [atL]
def yz2 (ts : List Nd) : Nat := (ts.map fun x => 1 + min x.t.size 6000 + min x.u.size 6000).sum
theorem sizeT_next {ts : List Nd} {k : Nat} {x : Nd} (h : ts[k]? = some x) : yz2 (ts.take (k + 1)) = yz2 (ts.take k) + (1 + min x.t.size 6000 + min x.u.size 6000) := by
 rw [List.take_add_one, h, Option.toList_some];simp [yz2]
theorem sizeT_le (ts : List Nd) (k : Nat) : yz2 (ts.take k) ≤ yz2 ts := by
 have : yz2 ts = yz2 (ts.take k) + yz2 (ts.drop k) := by
  unfold yz2;rw [List.map_take, List.map_drop, ← List.sum_append, List.take_append_drop]
 omega
set_option maxRecDepth 100000 in
theorem kBare_c {w : World} {A : Option Addr} {n c : Nat} {ts : List Nd} (h : TreR w A n c ts) (hn6 : n ≤ 1000000) :
 Calls Tryz.prog 21 #[.slice A n c] w fun e w' => ∃ A2 c2, e = .returned (.slice A2 n c2) ∧ OwnT w' w.heap.size A2 n c2 (ts.map xjs) ∧ Below w.heap.size w w' := by
 have hn := h.1;have HN := hid hn;have HO := hid (kOwnT_c h hn6);clear h hn;go_enter Tryz.func21, Tryz.ntmps21;go_wp2_with fail
 refine HO.out.mono ?_;rintro e w1 ⟨A2, c2, rfl, ho, bn⟩;have HO0 : Hid (OwnT w1 w.heap.size A2 n c2 (atL 0 ts 0)) := by show OwnT _ _ _ _ _ _; rw [atL_zero]; exact ho
 have hcc := ho.2.caps.1;have HB0 := hid bn;clear ho bn HO;go_wp2
 go_loopw [4] (fun i wr => ∃ k : Nat, i = .int .i64 (k : Int) ∧ k ≤ n ∧ Hid (OwnT wr w.heap.size A2 n c2 (atL 0 ts k)) ∧ Hid (Below w.heap.size w wr)) (fun i _ => n - (intOf i).toNat)
 case atStart => exact ⟨0, rfl, Nat.zero_le _, HO0, HB0⟩
 case round =>
  obtain ⟨k, rfl, hk, HO, HB⟩ := hrel;by_cases hlt : k < n
  · skip
    obtain ⟨x, hx⟩ : ∃ x, ts[k]? = some x := ⟨_, List.getElem?_eq_getElem (by rw [← HN.out]; exact hlt)⟩;have hx2 : (atL 0 ts k)[k]? = some x := map_at_step hx;obtain ⟨g, rfl, hgB, _⟩ := HO.out.blk (by omega);have c6 := HO.out.inV hx2 6 (.int .i64 x.p) rfl;have f6 := HO.out.free (k * 7 + 6);have HO2 : Hid (OwnT (wr.setCell ⟨g, k * 7 + 6, none⟩ (.int .i64 0)) w.heap.size (some ⟨g, 0, none⟩) n c2 (atL 0 ts (k + 1))) := by
     show OwnT _ _ _ _ _ _;have h := HO.out.set (r := 6) (y := { x with p := 0 }) (v := .int .i64 0) hx2 (by decide) rfl;unfold atL at h ⊢;rw [map_set_step (f := fun x => { x with p := 0 }) hx] at h;exact h
    have HB2 := hid (xqt HB.out hgB (k * 7 + 6) (.int .i64 0));clear hx hx2 HO HB;go_wp2
    go_roundw
    case rel => exact ⟨k + 1, by go_num, hlt, HO2, HB2⟩
    case measure => simp [intOf]; omega
  · obtain rfl : n = k := by omega
    have HOf : Hid (OwnT wr w.heap.size A2 n c2 (ts.map xjs)) := by show OwnT _ _ _ _ _ _; have h := HO.out; rw [HN.out, atL_all] at h; rw [HN.out]; exact h
    go_wp2
    go_ret
    exact ⟨_, _, rfl, HOf.out, HB.out⟩
set_option maxRecDepth 100000 in
theorem kOwnS_c {w : World} {A : Option Addr} {n c : Nat} {ds : List Dc} (h : DcR w A n c ds) (hn6 : n ≤ 100000) (hm : ∀ d ∈ ds, d.tr.length ≤ 1000000) :
 Calls Tryz.prog 27 #[.slice A n c] w fun e w' => ∃ A2 c2 xs, e = .returned (.slice A2 n c2) ∧ OwnD w' w.heap.size A2 n c2 xs ∧ DsO w' xs ∧ xs.map DS.d = ds ∧ Below w.heap.size w w' := by
 have hn := h.len;have hc : n ≤ c ∧ c ≤ maxLen := by obtain ⟨_, _, _, a, b, _⟩ := h; exact ⟨a, b⟩
 obtain ⟨hc, hcm⟩ := hc;have H := hid h;have HN := hid hn;have HM := hid hm;clear h hn hm;have eq1 : maxLen = 9223372036854775807 := rfl;go_enter Tryz.func27, Tryz.ntmps27;go_wp2
 go_loopw [3, 4] (fun s i wr => ∃ (k0 : Nat) (A9 : Option Addr) (c9 : Nat) (xs : List DS), s = .slice A9 k0 c9 ∧ i = .int .i64 (k0 : Int) ∧ k0 ≤ n ∧ Hid (OwnD wr w.heap.size A9 k0 c9 xs) ∧ Hid (DsO wr xs) ∧ Hid (xs.map DS.d = ds.take k0) ∧ Hid (Below w.heap.size w wr)) (fun _ i _ => n - (intOf i).toNat)
 case atStart => exact ⟨0, none, 0, [], rfl, rfl, Nat.zero_le _, ⟨rfl, OwnR.nil _ _ _ _⟩, fun x hx => (by cases hx), rfl, Below.refl _ _⟩
 case round =>
  obtain ⟨k0, A9, c9, xs, rfl, rfl, hk, HO, HD, HX, HB⟩ := hrel;by_cases hlt : k0 < n
  · skip
    obtain ⟨x, hx⟩ : ∃ x, ds[k0]? = some x := ⟨_, List.getElem?_eq_getElem (by rw [← HN.out]; exact hlt)⟩;have HXx := hid hx;have hlen := HM.out x (List.mem_of_getElem? hx);obtain ⟨g, og, A1, q1, c1, nm1, ot1, nu1, va1, un1, rfl, hg, hin, ht1, u1, u2, u3, u4, u5⟩ := (H.out.below HB.out).at2 hx;have hq1 := ht1.1;have hq6 : q1 ≤ 1000000 := by omega
    have HU := hid (And.intro u1 (And.intro u2 (And.intro u3 (And.intro u4 u5))));have HI_x : Hid (InV wr g (og + k0 * 9) (dcC x.k nm1 ot1 nu1 va1 un1 A1 q1 c1 x.pl x.at')) := hin;have HM_x := hid (xq3 x.k nm1 ot1 nu1 va1 un1 A1 q1 c1 x.pl x.at');have HU_x : Hid (xq7 Tryz.prog 62 (dcC x.k nm1 ot1 nu1 va1 un1 A1 q1 c1 x.pl x.at').size ∧ zDc.size = (dcC x.k nm1 ot1 nu1 va1 un1 A1 q1 c1 x.pl x.at').size ∧ ∀ v ∈ dcC x.k nm1 ot1 nu1 va1 un1 A1 q1 c1 x.pl x.at', v.oneCell' = true) := ⟨xq3 _ _ _ _ _ _ _ _ _ _ _, rfl, by simp [Value.oneCell']⟩;have HT1 := hid ht1;clear hx hin hg ht1 u1 u2 u3 u4 u5 hlen hq1
    go_upto_region 6 with (first | (refine xqf (by rfl) _ _ (by rfl) _ _ (by rfl) _ (by assumption) (by assumption) ?_) | (refine xqg (by rfl) _ _ _ (by rfl) _ _ _ (by rfl) (by rfl) (by assumption) ?_))
    dsimp only [Act.put];have hrx := xqd wr 62 (dcC x.k nm1 ot1 nu1 va1 un1 A1 q1 c1 x.pl x.at');have bn := xqc wr (.cells (dcC x.k nm1 ot1 nu1 va1 un1 A1 q1 c1 x.pl x.at') 62);have hws : (wr.alloc (.cells (dcC x.k nm1 ot1 nu1 va1 un1 A1 q1 c1 x.pl x.at') 62)).heap.size = wr.heap.size + 1 := by simp
    have HBx := hid bn;generalize wr.alloc (.cells (dcC x.k nm1 ot1 nu1 va1 un1 A1 q1 c1 x.pl x.at') 62) = wS at *;obtain ⟨q9, hq9⟩ : ∃ g, g = wr.heap.size := ⟨_, rfl⟩;rw [← hq9] at hrx ⊢;have Hq9 := hid hq9;have hq9s : Hid (q9 < wS.heap.size) := by show _ < _; omega
    have HRx := hid hrx;have kt6 := hrx.cell (k := 6) (v := .slice A1 q1 c1) rfl;have HT2 := hid (HT1.out.below HBx.out);clear hq9 HI_x HU_x HM_x bn hrx hws HT1;go_wp2_with fail
    refine (kOwnT_c HT2.out hq6).mono ?_;rintro e wC ⟨A2, c2, rfl, hO2, bn⟩;have HBc := hid (xqa HBx.out bn);have hcx := (HRx.out.below bn);have HRc := hid hcx;have f6 := hcx.free 6;have kc6 := hcx.cell (k := 6) (v := .slice A1 q1 c1) rfl;obtain ⟨V2, hV2⟩ : ∃ V, V = dcC x.k nm1 ot1 nu1 va1 un1 A2 q1 c2 x.pl x.at' := ⟨_, rfl⟩;have HRz : Hid (RowA (wC.setCell ⟨q9, 6, none⟩ (.slice A2 q1 c2)) q9 62 (dcC x.k nm1 ot1 nu1 va1 un1 A2 q1 c2 x.pl x.at')) := RowA.set hcx 6 (.slice A2 q1 c2);have HBz : Hid (Below wr.heap.size wr (wC.setCell ⟨q9, 6, none⟩ (.slice A2 q1 c2))) := xqt HBc.out (Nat.le_of_eq Hq9.out.symm) 6 _;have HOz : Hid (OwnD (wC.setCell ⟨q9, 6, none⟩ (.slice A2 q1 c2)) w.heap.size A9 k0 c9 xs) := HO.out.below HBz.out;have HDz : Hid (DsO (wC.setCell ⟨q9, 6, none⟩ (.slice A2 q1 c2)) xs) := HD.out.below HBz.out;have HXz : Hid (OwnX (wC.setCell ⟨q9, 6, none⟩ (.slice A2 q1 c2)) A2 q1 c2 x.tr) := hO2.x.over hcx td_tn (xqs _ _ _ _);have HBw : Hid (Below w.heap.size w (wC.setCell ⟨q9, 6, none⟩ (.slice A2 q1 c2))) := xqa HB.out HBz.out;clear bn hcx hO2 HO HD HB HRx kt6 HT2 HBx HBc hV2 HBz
    skip
    have HI_y := hid HRz.out.inV;have HM_y := hid (xq3 x.k nm1 ot1 nu1 va1 un1 A2 q1 c2 x.pl x.at');generalize hwz : wC.setCell ⟨q9, 6, none⟩ (.slice A2 q1 c2) = wZ at HRz HOz HDz HXz HBw HI_y;have b2 := xqc wZ (.cells (dcC x.k nm1 ot1 nu1 va1 un1 A2 q1 c2 x.pl x.at') 62);have hrow := xqd wZ 62 (dcC x.k nm1 ot1 nu1 va1 un1 A2 q1 c2 x.pl x.at');have HOo : Hid (OwnR (wZ.alloc (.cells (dcC x.k nm1 ot1 nu1 va1 un1 A2 q1 c2 x.pl x.at') 62)) w.heap.size 62 9 A9 k0 c9 (xzq xs)) := (HOz.out.below b2).2;have HOd : Hid (OwnD (wZ.alloc (.cells (dcC x.k nm1 ot1 nu1 va1 un1 A2 q1 c2 x.pl x.at') 62)) w.heap.size A9 k0 c9 xs) := HOz.out.below b2;have HDo : Hid (DsO (wZ.alloc (.cells (dcC x.k nm1 ot1 nu1 va1 un1 A2 q1 c2 x.pl x.at') 62)) xs) := HDz.out.below b2;have HXo : Hid (OwnX (wZ.alloc (.cells (dcC x.k nm1 ot1 nu1 va1 un1 A2 q1 c2 x.pl x.at') 62)) A2 q1 c2 x.tr) := HXz.out.below b2;have HLx : Hid (RowA (wZ.alloc (.cells (dcC x.k nm1 ot1 nu1 va1 un1 A2 q1 c2 x.pl x.at') 62)) wZ.heap.size 62 (dcC x.k nm1 ot1 nu1 va1 un1 A2 q1 c2 x.pl x.at') ∧ (dcC x.k nm1 ot1 nu1 va1 un1 A2 q1 c2 x.pl x.at').size = 9 ∧ ∀ v ∈ dcC x.k nm1 ot1 nu1 va1 un1 A2 q1 c2 x.pl x.at', v.oneCell' = true) := ⟨hrow, rfl, by simp [Value.oneCell']⟩;have HEx : Hid (k0 ≤ 1000000 ∧ w.heap.size ≤ (wZ.alloc (.cells (dcC x.k nm1 ot1 nu1 va1 un1 A2 q1 c2 x.pl x.at') 62)).heap.size) := ⟨by omega, Nat.le_trans HBw.out.size b2.size⟩;have HBa := hid (xqa HBw.out b2);clear b2 hrow HOz HDz HXz HBw;subst hwz
    have HLx3 : Hid (RowA ((wC.setCell ⟨q9, 6, none⟩ (.slice A2 q1 c2)).alloc (.cells (dcC x.k nm1 ot1 nu1 va1 un1 A2 q1 c2 x.pl x.at') 62)) wC.heap.size 62 (dcC x.k nm1 ot1 nu1 va1 un1 A2 q1 c2 x.pl x.at') ∧ (dcC x.k nm1 ot1 nu1 va1 un1 A2 q1 c2 x.pl x.at').size = 9 ∧ ∀ v ∈ dcC x.k nm1 ot1 nu1 va1 un1 A2 q1 c2 x.pl x.at', v.oneCell' = true) := by have h := HLx.out; rw [World.size_setCell] at h; exact h
    go_wp2_with (first | (refine xqf (by rfl) _ _ (by rfl) _ _ (by rfl) _ (by assumption) (by assumption) ?_) | (at_builtin; refine xvr rfl _ _ 26 rfl w.heap.size 62 9 dcs_elem A9 k0 c9 (xzq xs) (by rfl) HOo wC.heap.size (by rfl) 62 (dcC x.k nm1 ot1 nu1 va1 un1 A2 q1 c2 x.pl x.at') HLx3 HEx ?_));intro A3 c3 w5 hO5 hg5;have HB5 : Hid (Below w.heap.size w w5) := HBa.out.grown hg5.out HBa.out.size fun g hg => by have h9 := HOd.out.2.lt g hg; have := HBa.out.size; omega
    have HO5 : Hid (OwnD w5 w.heap.size A3 (k0 + 1) c3 (xs ++ [⟨x, A2, q1, c2⟩])) := by
     refine ⟨by rw [List.length_append, ← HOd.out.1]; rfl, ?_⟩;have h := hO5.out;rw [ywr];unfold dcV;dsimp only;rw [HU.out.1, HU.out.2.1, HU.out.2.2.1, HU.out.2.2.2.1, HU.out.2.2.2.2];exact h
    have HD5 : Hid (DsO w5 (xs ++ [⟨x, A2, q1, c2⟩])) := (HDo.out.grown HOd.out hg5.out).snoc (HXo.out.grown HOd.out hg5.out);have HX5 : Hid ((xs ++ [(⟨x, A2, q1, c2⟩ : DS)]).map DS.d = ds.take (k0 + 1)) := by show _ = _; rw [List.map_append, HX.out, List.take_add_one, HXx.out]; rfl
    clear hO5 hg5 HOo HOd HDo HXo HLx HLx3 HEx HBa HRz HI_y HM_y HRc kc6 f6 HU HXx HX Hq9 hq9s;go_wp2
    go_roundw
    case rel => exact ⟨k0 + 1, A3, c3, _, rfl, by go_num, hlt, HO5, HD5, HX5, HB5⟩
    case measure => simp [intOf]; omega
  · obtain rfl : n = k0 := by omega
    have HXf : Hid (xs.map DS.d = ds) := by show _ = _; rw [HX.out]; exact List.take_of_length_le (by rw [← HN.out]; exact Nat.le_refl _)
    go_wp2
    go_ret
    exact ⟨_, _, xs, rfl, HO.out, HD.out, HXf.out, HB.out⟩
def barL (ds : List Dc) (k : Nat) : List Dc := (ds.take k).map xj8 ++ ds.drop k
theorem barL_zero (ds : List Dc) : barL ds 0 = ds := by simp [barL]
theorem barL_all (ds : List Dc) : barL ds ds.length = ds.map xj8 := by simp [barL]
theorem barL_at {ds : List Dc} {k : Nat} {d : Dc} (h : ds[k]? = some d) : (barL ds k)[k]? = some d := by
 have hi := (List.getElem?_eq_some_iff.1 h).1;have h2 : ((ds.take k).map xj8).length = k := by simp; omega
 unfold barL;rw [List.getElem?_append_right (by rw [h2]; exact Nat.le_refl _), h2, Nat.sub_self, List.drop_eq_getElem_cons hi, List.getElem?_cons_zero, (List.getElem?_eq_some_iff.1 h).2]
theorem barL_set {ds : List Dc} {k : Nat} {d : Dc} (h : ds[k]? = some d) : (barL ds k).set k (xj8 d) = barL ds (k + 1) := by
 have hi := (List.getElem?_eq_some_iff.1 h).1;have h2 : ((ds.take k).map xj8).length = k := by simp; omega
 unfold barL;rw [List.set_append_right (h := by rw [h2]; exact Nat.le_refl _), h2, Nat.sub_self, List.drop_eq_getElem_cons hi, List.set_cons_zero, List.take_add_one, h]
 simp
set_option maxRecDepth 100000 in
theorem kBareS_c {w : World} {A : Option Addr} {n c : Nat} {ds : List Dc} (h : DcR w A n c ds) (hn6 : n ≤ 100000) (hm : ∀ d ∈ ds, d.tr.length ≤ 1000000) :
 Calls Tryz.prog 35 #[.slice A n c] w fun e w' => ∃ A2 c2 xs, e = .returned (.slice A2 n c2) ∧ OwnD w' w.heap.size A2 n c2 xs ∧ DsO w' xs ∧ xs.map DS.d = ds.map xj8 ∧ Below w.heap.size w w' := by
 have hn := h.len;have HN := hid hn;have HM := hid hm;have HO := hid (kOwnS_c h hn6 hm);clear h hn hm;go_enter Tryz.func35, Tryz.ntmps35;go_wp2_with fail
 refine HO.out.mono ?_;rintro e w1 ⟨A2, c2, xs, rfl, ho, hd, hx, bn⟩;have HO0 := hid ho;have HD0 := hid hd;have HX0 : Hid (xs.map DS.d = barL ds 0) := by show _ = _; rw [barL_zero]; exact hx
 have HB0 := hid bn;have hcc := ho.2.caps.1;have hcm := ho.2.caps.2;clear ho hd hx bn HO;have eq1 : maxLen = 9223372036854775807 := rfl;go_wp2
 go_loopw [4] (fun i wr => ∃ (k0 : Nat) (ys : List DS), i = .int .i64 (k0 : Int) ∧ k0 ≤ n ∧ Hid (OwnD wr w.heap.size A2 n c2 ys) ∧ Hid (DsO wr ys) ∧ Hid (ys.map DS.d = barL ds k0) ∧ Hid (Below w.heap.size w wr)) (fun i _ => n - (intOf i).toNat)
 case atStart => exact ⟨0, xs, rfl, Nat.zero_le _, HO0, HD0, HX0, HB0⟩
 case round =>
  clear HO0 HD0 HX0 HB0;obtain ⟨k0, ys, rfl, hk, HO, HD, HX, HB⟩ := hrel;by_cases hlt : k0 < n
  · skip
    obtain ⟨d, hd⟩ : ∃ d, ds[k0]? = some d := ⟨_, List.getElem?_eq_getElem (by rw [← HN.out]; exact hlt)⟩;have HDx := hid hd;have hlen := HM.out d (List.mem_of_getElem? hd);obtain ⟨x, hx, hxd⟩ : ∃ x, ys[k0]? = some x ∧ x.d = d := by
     have h := barL_at hd;rw [← HX.out, List.getElem?_map] at h;exact Option.map_eq_some_iff.1 h
    obtain ⟨d0, C, m, e0⟩ := x;dsimp only at hxd;subst hxd;obtain ⟨g, rfl, hgB, hgl⟩ := HO.out.blk (by omega);have HXx := hid hx;have ht := HD.out _ (List.mem_of_getElem? hx);dsimp only at ht;have hm6 : m ≤ 1000000 := by have := ht.tree.1; omega
    have hcs := ht.tree.2.1;have hcs2 := ht.tree.2.2.1;have c8 := HO.out.inV hx 8 (.int .i64 d0.at') rfl;have c6 := HO.out.inV hx 6 (.slice C m e0) rfl;have f8 := HO.out.free (k0 * 9 + 8);have f6 := HO.out.free (k0 * 9 + 6);have HO2 : Hid (OwnD (wr.setCell ⟨g, k0 * 9 + 8, none⟩ (.int .i64 0)) w.heap.size (some ⟨g, 0, none⟩) n c2 (ys.set k0 ⟨{ d0 with at' := 0 }, C, m, e0⟩)) := HO.out.set hx (r := 8) (y := ⟨{ d0 with at' := 0 }, C, m, e0⟩) (v := .int .i64 0) (by decide) rfl;have HD2 : Hid (DsO (wr.setCell ⟨g, k0 * 9 + 8, none⟩ (.int .i64 0)) ys) := HD.out.set HO.out;have HT2 : Hid (TreR (wr.setCell ⟨g, k0 * 9 + 8, none⟩ (.int .i64 0)) C m e0 d0.tr) := (ht.set HO.out).tree;have HB2 := hid (xqt HB.out hgB (k0 * 9 + 8) (.int .i64 0));clear hx hd HO HD HB ht hlen
    go_upto_region 6 with fail
    skip
    have f62 := HO2.out.free (k0 * 9 + 6);have c62 := HO2.out.inV (x := ⟨{ d0 with at' := 0 }, C, m, e0⟩) (List.getElem?_set_self (List.getElem?_eq_some_iff.1 HXx.out).1) 6 (.slice C m e0) rfl
    skip
    generalize wr.setCell ⟨g, k0 * 9 + 8, none⟩ (.int .i64 0) = wS at *;clear c8 c6 f8 f6;go_wp2_with fail
    refine (kBare_c HT2.out hm6).mono ?_;rintro e wC ⟨A3, c3, rfl, hO3, bn⟩;have HO3 := hid (HO2.out.below bn);have HD3 := hid (HD2.out.below bn);have HX3 := hid hO3.x;have HB3 := hid (xqa HB2.out bn);have f63 := HO3.out.free (k0 * 9 + 6);have c63 := HO3.out.inV (x := ⟨{ d0 with at' := 0 }, C, m, e0⟩) (List.getElem?_set_self (List.getElem?_eq_some_iff.1 HXx.out).1) 6 (.slice C m e0) rfl;have HO4 : Hid (OwnD (wC.setCell ⟨g, k0 * 9 + 6, none⟩ (.slice A3 m c3)) w.heap.size (some ⟨g, 0, none⟩) n c2 (ys.set k0 ⟨xj8 d0, A3, m, c3⟩)) := by
     have h := HO3.out.set (x := ⟨{ d0 with at' := 0 }, C, m, e0⟩) (List.getElem?_set_self (List.getElem?_eq_some_iff.1 HXx.out).1) (r := 6) (y := ⟨xj8 d0, A3, m, c3⟩) (v := .slice A3 m c3) (by decide) rfl;rw [List.set_set] at h;exact h
    have HD4 : Hid (DsO (wC.setCell ⟨g, k0 * 9 + 6, none⟩ (.slice A3 m c3)) (ys.set k0 ⟨xj8 d0, A3, m, c3⟩)) := by
     intro y hy;rcases List.mem_or_eq_of_mem_set hy with hy | rfl
     · exact (HD3.out y hy).set HO3.out
     · exact HX3.out.set HO3.out
    have HX4 : Hid ((ys.set k0 (⟨xj8 d0, A3, m, c3⟩ : DS)).map DS.d = barL ds (k0 + 1)) := by show _ = _; rw [List.map_set, HX.out]; exact barL_set HDx.out
    have HB4 := hid (xqt HB3.out hgB (k0 * 9 + 6) (.slice A3 m c3));clear bn hO3 HO3 HD3 HX3 HB3 HO2 HD2 HT2 HB2 c62 f62 HXx HX HDx;go_wp2
    go_roundw
    case rel => exact ⟨k0 + 1, _, by go_num, hlt, HO4, HD4, HX4, HB4⟩
    case measure => simp [intOf]; omega
  · obtain rfl : n = k0 := by omega
    have HXf : Hid (ys.map DS.d = ds.map xj8) := by show _ = _; rw [HX.out, HN.out, barL_all]
    go_wp2
    go_ret
    exact ⟨_, _, ys, rfl, HO.out, HD.out, HXf.out, HB.out⟩
def sizeD (d : Dc) : Nat := 1 + min d.nm.length 6000 + min d.ot.length 6000 + min d.nu.length 6000 + min d.va.length 6000 + min d.un.length 6000
def yz3 (ds : List Dc) : Nat := (ds.map fun d => sizeD d + yz2 d.tr).sum
def largeS (ds : List Dc) : Bool := decide (6000 < yz3 ds)
theorem sizeS_next {ds : List Dc} {k : Nat} {d : Dc} (h : ds[k]? = some d) : yz3 (ds.take (k + 1)) = yz3 (ds.take k) + (sizeD d + yz2 d.tr) := by
 rw [List.take_add_one, h, Option.toList_some];simp [yz3]
theorem sizeS_le (ds : List Dc) (k : Nat) : yz3 (ds.take k) ≤ yz3 ds := by
 have : yz3 ds = yz3 (ds.take k) + yz3 (ds.drop k) := by
  unfold yz3;rw [List.map_take, List.map_drop, ← List.sum_append, List.take_append_drop]
 omega
set_option maxRecDepth 100000 in
theorem kLargeS_c {w : World} {A : Option Addr} {n c : Nat} {ds : List Dc} (h : DcR w A n c ds) (v : Bool) (hv : largeS ds = v) :
 Calls Tryz.prog 25 #[.slice A n c] w fun e w' => e = .returned (.bool v) ∧ Below w.heap.size w w' := by
 have hn := h.len;obtain ⟨hc, hcm⟩ : n ≤ c ∧ c ≤ maxLen := by obtain ⟨_, _, _, a, b, _⟩ := h; exact ⟨a, b⟩
 have H := hid h;have HN := hid hn;have HV := hid hv;have eq1 : maxLen = 9223372036854775807 := rfl;clear h hn hv;go_enter Tryz.func25, Tryz.ntmps25;go_wp2
 go_loopw [3, 4] (fun s i wr => ∃ k0 m : Nat, s = .int .i64 (m : Int) ∧ i = .int .i64 (k0 : Int) ∧ k0 ≤ n ∧ m ≤ 100000 ∧ Hid ((m ≤ 6000 → yz3 (ds.take k0) = m) ∧ (6000 < m → v = true)) ∧ Hid (Below w.heap.size w wr)) (fun _ i _ => n - (intOf i).toNat)
 case atStart => exact ⟨0, 0, rfl, rfl, Nat.zero_le _, by omega, ⟨fun _ => rfl, fun h => absurd h (by omega)⟩, Below.refl _ _⟩
 case round =>
  obtain ⟨k0, m, rfl, rfl, hk, hm, HS, HB⟩ := hrel;by_cases hlt : k0 < n
  · by_cases hb : 6000 < m
    · have HVt := hid (HS.out.2 hb);have eb : decide ((6000 : Int) < (m : Int)) = true := decide_eq_true (by omega);have eb2 : decide ((m : Int) ≤ 6000) = false := decide_eq_false (by omega);go_wp2
      go_ret
      exact ⟨by rw [HVt.out]; rfl, HB.out⟩
    · skip
      have hb7 : decide ((m : Int) ≤ 6000) = true := decide_eq_true (by omega);have hb8 : decide (m ≤ 6000) = true := decide_eq_true (by omega);obtain ⟨x, hx⟩ : ∃ x, ds[k0]? = some x := ⟨_, List.getElem?_eq_getElem (by rw [← HN.out]; exact hlt)⟩;have hsn := sizeS_next hx;rw [HS.out.1 (by omega)] at hsn;obtain ⟨g, og, A1, n1, c1, nm, ot, nu, va, un, rfl, hg, hin, ht, u1, u2, u3, u4, u5⟩ := (H.out.below HB.out).at2 hx;have hle := sizeS_le ds (k0 + 1);have l1 : x.nm.length = nm.size := by rw [← u1, xqh]
      obtain ⟨a1, ha1⟩ : ∃ q, min nm.size 6000 = q := ⟨_, rfl⟩;have l2 : x.ot.length = ot.size := by rw [← u2, xqh]
      obtain ⟨a2, ha2⟩ : ∃ q, min ot.size 6000 = q := ⟨_, rfl⟩;have l3 : x.nu.length = nu.size := by rw [← u3, xqh]
      obtain ⟨a3, ha3⟩ : ∃ q, min nu.size 6000 = q := ⟨_, rfl⟩;have l4 : x.va.length = va.size := by rw [← u4, xqh]
      obtain ⟨a4, ha4⟩ : ∃ q, min va.size 6000 = q := ⟨_, rfl⟩;have l5 : x.un.length = un.size := by rw [← u5, xqh]
      obtain ⟨a5, ha5⟩ : ∃ q, min un.size 6000 = q := ⟨_, rfl⟩;unfold sizeD at hsn;rw [l1, l2, l3, l4, l5, ha1, ha2, ha3, ha4, ha5] at hsn;have ea1 : min (nm.size : Int) 6000 = (a1 : Int) := by omega
      have ba1 : a1 ≤ 6000 := by omega
      have ea2 : min (ot.size : Int) 6000 = (a2 : Int) := by omega
      have ba2 : a2 ≤ 6000 := by omega
      have ea3 : min (nu.size : Int) 6000 = (a3 : Int) := by omega
      have ba3 : a3 ≤ 6000 := by omega
      have ea4 : min (va.size : Int) 6000 = (a4 : Int) := by omega
      have ba4 : a4 ≤ 6000 := by omega
      have ea5 : min (un.size : Int) 6000 = (a5 : Int) := by omega
      have ba5 : a5 ≤ 6000 := by omega
      have bn := xqc wr (.cells (dcC x.k nm ot nu va un A1 n1 c1 x.pl x.at') 62);have HI_1 : Hid (InV wr g (og + k0 * 9) (dcC x.k nm ot nu va un A1 n1 c1 x.pl x.at')) := hin;have HM_1 : Hid (xq7 Tryz.prog 62 (dcC x.k nm ot nu va un A1 n1 c1 x.pl x.at').size) := xq3 _ _ _ _ _ _ _ _ _ _ _;have HU_1 : Hid (xq7 Tryz.prog 62 (dcC x.k nm ot nu va un A1 n1 c1 x.pl x.at').size ∧ zDc.size = (dcC x.k nm ot nu va un A1 n1 c1 x.pl x.at').size ∧ ∀ v ∈ dcC x.k nm ot nu va un A1 n1 c1 x.pl x.at', v.oneCell' = true) := ⟨xq3 _ _ _ _ _ _ _ _ _ _ _, rfl, by simp [Value.oneCell']⟩;have hX := xqd wr 62 (dcC x.k nm ot nu va un A1 n1 c1 x.pl x.at');have x1 := hX.cell (k := 1) (v := .string nm) rfl;have x2 := hX.cell (k := 2) (v := .string ot) rfl;have x3 := hX.cell (k := 3) (v := .string nu) rfl;have x4 := hX.cell (k := 4) (v := .string va) rfl;have x5 := hX.cell (k := 5) (v := .string un) rfl;have HX := hid hX;have HTr := hid (ht.below bn);have HB2 := hid (xqa HB.out bn);have HSN := hid hsn;have HLE := hid hle;clear hx hg hin ht bn HB hX hsn hle u1 u2 u3 u4 u5 l1 l2 l3 l4 l5 ha1 ha2 ha3 ha4 ha5 HS
      go_upto_region 8 with (first | (refine xqf (by rfl) _ _ (by rfl) _ _ (by rfl) _ (by assumption) (by assumption) ?_) | (refine xqg (by rfl) _ _ _ (by rfl) _ _ _ (by rfl) (by rfl) (by assumption) ?_))
      obtain ⟨m2, hm2⟩ : ∃ m2 : Nat, m2 = m + (1 + a1 + a2 + a3 + a4 + a5) := ⟨_, rfl⟩;have e2 : (m : Int) + (1 + (a1 : Int) + (a2 : Int) + (a3 : Int) + (a4 : Int) + (a5 : Int)) = (m2 : Int) := by omega
      rw [e2];have HSN2 : Hid (yz3 (ds.take (k0 + 1)) = m2 + yz2 x.tr) := by have h1 := HSN.out; show _ = _; omega
      have hm3 : m2 ≤ 40000 := by omega
      clear e2 hm2 HSN ea1 ea2 ea3 ea4 ea5 ba1 ba2 ba3 ba4 ba5 hb7 hb8 x1 x2 x3 x4 x5 HI_1 HM_1 HU_1;generalize wr.alloc (.cells (dcC x.k nm ot nu va un A1 n1 c1 x.pl x.at') 62) = w8 at *;obtain ⟨q_x, hqx⟩ : ∃ g, g = wr.heap.size := ⟨_, rfl⟩;rw [← hqx] at HX ⊢;clear hqx;obtain ⟨hn1, hc1, hcm1, _⟩ := id HTr.out;have HN1 := hid hn1;clear hn1
      go_loopw [3, 6] (fun s i wr => ∃ j0 m1 : Nat, s = .int .i64 (m1 : Int) ∧ i = .int .i64 (j0 : Int) ∧ j0 ≤ n1 ∧ m1 ≤ 60000 ∧ Hid (m2 + yz2 (x.tr.take j0) = m1) ∧ Hid (Below w8.heap.size w8 wr)) (fun _ i _ => n1 - (intOf i).toNat)
      case atStart => exact ⟨0, m2, rfl, rfl, Nat.zero_le _, by omega, rfl, Below.refl _ _⟩
      case round =>
       obtain ⟨j0, m1, rfl, rfl, hj, hm1, HS, HB⟩ := hrel;have x6 := (RowA.below HX.out HB.out).cell (k := 6) (v := .slice A1 n1 c1) rfl;by_cases hjl : j0 < n1
       · by_cases hb1 : 6000 < m1
         · have eb : decide ((6000 : Int) < (m1 : Int)) = true := decide_eq_true (by omega);have eb2 : decide ((m1 : Int) ≤ 6000) = false := decide_eq_false (by omega);have HBf := hid (xqa HB2.out HB.out);have HRf : Hid ((m1 ≤ 6000 → yz3 (ds.take (k0 + 1)) = m1) ∧ (6000 < m1 → v = true)) := by
            refine ⟨fun h => absurd h (by omega), fun h => ?_⟩;rw [← HV.out];exact decide_eq_true (by have h1 := HSN2.out; have h2 := HLE.out; have h3 := HS.out; have h4 := sizeT_le x.tr j0; omega)
           clear HS HB;go_wp2
           go_roundw
           case rel => exact ⟨k0 + 1, m1, rfl, by go_num, hlt, by omega, HRf, HBf⟩
           case measure => simp [intOf]; omega
         · skip
           have hb7 : decide ((m1 : Int) ≤ 6000) = true := decide_eq_true (by omega);obtain ⟨y, hy⟩ : ∃ y, x.tr[j0]? = some y := ⟨_, List.getElem?_eq_getElem (by rw [← HN1.out]; exact hjl)⟩;have hsn := sizeT_next hy;obtain ⟨gt, ot, rfl, hgt, hin⟩ := (HTr.out.below HB.out).at hy;have c4 := hin 4 (.string y.t) rfl;have c5 := hin 5 (.string y.u) rfl;obtain ⟨kk, a, b, jj, t, u, p⟩ := y;dsimp only at c4 c5 hsn;obtain ⟨mt, hmt⟩ : ∃ q, min t.size 6000 = q := ⟨_, rfl⟩;obtain ⟨mu, hmu⟩ : ∃ q, min u.size 6000 = q := ⟨_, rfl⟩;rw [hmt, hmu] at hsn;have HSn : Hid (m2 + yz2 (x.tr.take (j0 + 1)) = m1 + (1 + mt + mu)) := by have := HS.out; show _ = _; omega
           have et : min (t.size : Int) 6000 = (mt : Int) := by omega
           have eu : min (u.size : Int) 6000 = (mu : Int) := by omega
           have hmt6 : mt ≤ 6000 := by omega
           have hmu6 : mu ≤ 6000 := by omega
           have HG := hid hgt;have C4 := hid c4;have C5 := hid c5;have HMT := hid et;have HMU := hid eu;have HXw := hid (RowA.below HX.out HB.out);clear hy hin hsn hgt HS c4 c5 hmt hmu et eu;go_wp2
           clear x6;generalize wr = wS at *;have g1 : (j0 : Int) < (n1 : Int) := by omega
           refine xj2 20 1 14 [59, 60, 61, 62, 63, 64, 65, 66, 67, 68, 69, 70, 71, 72, 73, 74, 75, 76, 77, 78] ?aF1 (fun wx => Below wS.heap.size wS wx) (fun k vv wx => match k with
            | 0 => vv = .int .i64 (m1 : Int)
            | 1 => vv = .pointer (some ⟨q_x, 6, none⟩)
            | 2 => vv = .slice (some ⟨gt, ot, none⟩) n1 c1
            | 3 => vv = .int .i64 (j0 : Int)
            | 4 => vv = .pointer (some ⟨gt, ot + j0 * 7, none⟩)
            | 5 => vv = .pointer (some ⟨gt, ot + j0 * 7 + 4, none⟩)
            | 6 => vv = .string t
            | 7 => vv = .int .i64 (t.size : Int)
            | 8 => vv = .int .i64 (mt : Int)
            | 9 => vv = .int .i64 (1 + (mt : Int))
            | 10 => vv = .pointer (some ⟨q_x, 6, none⟩)
            | 11 => vv = .slice (some ⟨gt, ot, none⟩) n1 c1
            | 12 => vv = .int .i64 (j0 : Int)
            | 13 => vv = .pointer (some ⟨gt, ot + j0 * 7, none⟩)
            | 14 => vv = .pointer (some ⟨gt, ot + j0 * 7 + 5, none⟩)
            | 15 => vv = .string u
            | 16 => vv = .int .i64 (u.size : Int)
            | 17 => vv = .int .i64 (mu : Int)
            | 18 => vv = .int .i64 (1 + (mt : Int) + (mu : Int))
            | _ => vv = .int .i64 ((m1 : Int) + (1 + (mt : Int) + (mu : Int))))
            (fun k => false) (by kernel_rfl) ?haF1 rfl (by kernel_rfl) (by kernel_rfl) (fun _ _ _ _ _ h => h) ?hSb1 ?hPb1 ?hS1 ?hop1 ?hfin1
           case haF1 =>
            intro vals;simp only [xqx, List.getElem?_cons_zero, List.getElem?_cons_succ, Act.put, List.setIfInBounds_toArray, List.set_cons_zero, List.set_cons_succ];exact rfl
           case hSb1 => exact fun wx w2 hb hS => xqa hS hb
           case hPb1 =>
            intro k v wa wb hb h
            match k, h with
            | 0, h => exact h
            | 1, h => exact h
            | 2, h => exact h
            | 3, h => exact h
            | 4, h => exact h
            | 5, h => exact h
            | 6, h => exact h
            | 7, h => exact h
            | 8, h => exact h
            | 9, h => exact h
            | 10, h => exact h
            | 11, h => exact h
            | 12, h => exact h
            | 13, h => exact h
            | 14, h => exact h
            | 15, h => exact h
            | 16, h => exact h
            | 17, h => exact h
            | 18, h => exact h
            | _ + 19, h => exact h
           case hS1 => exact (Below.refl _ _).drew
           case hop1 =>
            refine .cons (k := 0) (.plain rfl ?_) (.cons (k := 1) (.plain rfl ?_) (.cons (k := 2) (.plain rfl ?_) (.cons (k := 3) (.plain rfl ?_) (.cons (k := 4) (.plain rfl ?_) (.cons (k := 5) (.plain rfl ?_) (.cons (k := 6) (.plain rfl ?_) (.cons (k := 7) (.plain rfl ?_) (.cons (k := 8) (.plain rfl ?_) (.cons (k := 9) (.plain rfl ?_) (.cons (k := 10) (.plain rfl ?_) (.cons (k := 11) (.plain rfl ?_) (.cons (k := 12) (.plain rfl ?_) (.cons (k := 13) (.plain rfl ?_) (.cons (k := 14) (.plain rfl ?_) (.cons (k := 15) (.plain rfl ?_) (.cons (k := 16) (.plain rfl ?_) (.cons (k := 17) (.plain rfl ?_) (.cons (k := 18) (.plain rfl ?_) (.cons (k := 19) (.plain rfl ?_) (.nil))))))))))))))))))))
            all_goals intro vals wr hS hd KC hK
            all_goals (show Oper.wp _ _ _ _ _ _; dsimp only)
            · go_simp;refine hK _ _ rfl (Below.refl _ _) (by first | rfl | simp) (fun h => by cases h)
            · go_simp;refine hK _ _ rfl (Below.refl _ _) (by first | rfl | simp) (fun h => by cases h)
            · have d1 : vals 1 = _ := hd 1 (by decide +kernel);rw [d1];have z0 := (HXw.out.below hS).cell (k := 6) (v := .slice (some ⟨gt, ot, none⟩) n1 c1) rfl;go_simp;refine hK _ _ rfl (Below.refl _ _) (by first | rfl | simp) (fun h => by cases h)
            · go_simp;refine hK _ _ rfl (Below.refl _ _) (by first | rfl | simp) (fun h => by cases h)
            · have d2 : vals 2 = _ := hd 2 (by decide +kernel);have d3 : vals 3 = _ := hd 3 (by decide +kernel);rw [d2, d3];go_simp;refine hK _ _ rfl (Below.refl _ _) (by first | rfl | simp) (fun h => by cases h)
            · have d4 : vals 4 = _ := hd 4 (by decide +kernel);rw [d4];go_simp;refine hK _ _ rfl (Below.refl _ _) (by first | rfl | simp) (fun h => by cases h)
            · have d5 : vals 5 = _ := hd 5 (by decide +kernel);rw [d5];have z0 := (hS.cell (p := ⟨gt, ot + j0 * 7 + 4, none⟩) HG.out).trans C4.out;go_simp;refine hK _ _ rfl (Below.refl _ _) (by first | rfl | simp) (fun h => by cases h)
            · have d6 : vals 6 = _ := hd 6 (by decide +kernel);rw [d6];go_simp;refine hK _ _ rfl (Below.refl _ _) (by first | rfl | simp) (fun h => by cases h)
            · have d7 : vals 7 = _ := hd 7 (by decide +kernel);rw [d7];have hm1 := HMT.out;go_simp;refine hK _ _ rfl (Below.refl _ _) (by first | rfl | simp) (fun h => by cases h)
            · have d8 : vals 8 = _ := hd 8 (by decide +kernel);rw [d8];have hwr : IntKind.i64.wrap (1 + (mt : Int)) = 1 + (mt : Int) := by rw [IntKind.wrap_i64]; omega
              go_simp;refine hK _ _ rfl (Below.refl _ _) (by first | rfl | simp) (fun h => by cases h)
            · go_simp;refine hK _ _ rfl (Below.refl _ _) (by first | rfl | simp) (fun h => by cases h)
            · have d10 : vals 10 = _ := hd 10 (by decide +kernel);rw [d10];have z0 := (HXw.out.below hS).cell (k := 6) (v := .slice (some ⟨gt, ot, none⟩) n1 c1) rfl;go_simp;refine hK _ _ rfl (Below.refl _ _) (by first | rfl | simp) (fun h => by cases h)
            · go_simp;refine hK _ _ rfl (Below.refl _ _) (by first | rfl | simp) (fun h => by cases h)
            · have d11 : vals 11 = _ := hd 11 (by decide +kernel);have d12 : vals 12 = _ := hd 12 (by decide +kernel);rw [d11, d12];go_simp;refine hK _ _ rfl (Below.refl _ _) (by first | rfl | simp) (fun h => by cases h)
            · have d13 : vals 13 = _ := hd 13 (by decide +kernel);rw [d13];go_simp;refine hK _ _ rfl (Below.refl _ _) (by first | rfl | simp) (fun h => by cases h)
            · have d14 : vals 14 = _ := hd 14 (by decide +kernel);rw [d14];have z0 := (hS.cell (p := ⟨gt, ot + j0 * 7 + 5, none⟩) HG.out).trans C5.out;go_simp;refine hK _ _ rfl (Below.refl _ _) (by first | rfl | simp) (fun h => by cases h)
            · have d15 : vals 15 = _ := hd 15 (by decide +kernel);rw [d15];go_simp;refine hK _ _ rfl (Below.refl _ _) (by first | rfl | simp) (fun h => by cases h)
            · have d16 : vals 16 = _ := hd 16 (by decide +kernel);rw [d16];have hm1 := HMU.out;go_simp;refine hK _ _ rfl (Below.refl _ _) (by first | rfl | simp) (fun h => by cases h)
            · have d9 : vals 9 = _ := hd 9 (by decide +kernel);have d17 : vals 17 = _ := hd 17 (by decide +kernel);rw [d9, d17];have hwr : IntKind.i64.wrap (1 + (mt : Int) + (mu : Int)) = 1 + (mt : Int) + (mu : Int) := by rw [IntKind.wrap_i64]; omega
              go_simp;refine hK _ _ rfl (Below.refl _ _) (by first | rfl | simp) (fun h => by cases h)
            · have d0 : vals 0 = _ := hd 0 (by decide +kernel);have d18 : vals 18 = _ := hd 18 (by decide +kernel);rw [d0, d18];have hwr : IntKind.i64.wrap ((m1 : Int) + (1 + (mt : Int) + (mu : Int))) = (m1 : Int) + (1 + (mt : Int) + (mu : Int)) := by rw [IntKind.wrap_i64]; omega
              go_simp;refine hK _ _ rfl (Below.refl _ _) (by first | rfl | simp) (fun h => by cases h)
           case hfin1 =>
            intro vals wr hS hP hne;have ez_19 : vals 19 = _ := hP 19 (by decide)
            try dsimp only
            rw [ez_19];refine wpAny_ready (rs := [20]) (by kernel_rfl) (by simp) (AllReady.cons rfl (fun KC hK => ?_) AllReady.nil);go_simp;refine hK _ _ ?_;clear hK KC;refine wpAny_done (by kernel_rfl) ?_ _;go_wp2
            have HBg := hid (xqa HB.out hS);clear hS hP hne
            go_roundw
            case rel => exact ⟨j0 + 1, m1 + (1 + mt + mu), by first | rfl | (go_num), by go_num, hjl, by omega, HSn, HBg⟩
            case measure => simp [intOf]; omega
       · obtain rfl : n1 = j0 := by omega
         have HBf := hid (xqa HB2.out HB.out);have HRf : Hid ((m1 ≤ 6000 → yz3 (ds.take (k0 + 1)) = m1) ∧ (6000 < m1 → v = true)) := by
          have h1 := HS.out;rw [HN1.out, List.take_length] at h1;refine ⟨fun _ => by rw [HSN2.out, h1], fun h => ?_⟩;rw [← HV.out];exact decide_eq_true (by have h2 := HSN2.out; have h3 := HLE.out; omega)
         clear HS HB;go_wp2
         go_roundw
         case rel => exact ⟨k0 + 1, m1, rfl, by go_num, hlt, by omega, HRf, HBf⟩
         case measure => simp [intOf]; omega
  · obtain rfl : n = k0 := by omega
    have HVf : Hid (v = decide (6000 < m)) := by
     show _ = _;rcases Nat.lt_or_ge 6000 m with h6 | h6
     · rw [HS.out.2 h6, decide_eq_true h6]
     · have h1 := HS.out.1 h6;rw [HN.out, List.take_length] at h1;rw [← HV.out];unfold largeS;rw [h1]
    have eb : decide ((6000 : Int) < (m : Int)) = v := by rw [HVf.out, decide_eq_decide]; omega
    have eb2 : decide (6000 < m) = v := HVf.out.symm;clear HVf;go_wp2
    go_ret
    exact ⟨rfl, HB.out⟩
inductive Fm where
 | lit : ByteArray → ByteArray → Fm
 | ref : ByteArray → Fm
 | two : Int → Fm → Fm → Fm
 | neg : Fm → Fm
 | pow : Int → Fm → Fm
def Fm.nds : Fm → List Nd
 | .lit s u => [⟨1, 0, 0, 0, s, u, 0⟩]
 | .ref s => [⟨2, 0, 0, 0, s, ⟨#[]⟩, 0⟩]
 | .two k a b => xwf k a.nds b.nds 0
 | .neg a => xva 7 0 a.nds 0
 | .pow j a => xva 8 j a.nds 0
def Fm.kind : Fm → Int
 | .lit _ _ => 1
 | .ref _ => 2
 | .two k _ _ => k
 | .neg _ => 7
 | .pow _ _ => 8
def Fm.Ok : Fm → Prop
 | .lit s u => xq0 (bytesOf s) = true ∧ xjt u = true
 | .ref s => xjn (bytesOf s) = true
 | .two k a b => xq8 k = true ∧ a.Ok ∧ b.Ok
 | .neg a => a.Ok
 | .pow j a => -64 ≤ j ∧ j ≤ 64 ∧ a.Ok
def Fm.size : Fm → Nat
 | .lit _ _ => 1
 | .ref _ => 1
 | .two _ a b => a.size + b.size + 1
 | .neg a => a.size + 1
 | .pow _ a => a.size + 1
theorem Fm.len : ∀ f : Fm, f.nds.length = f.size
 | .lit _ _ => rfl
 | .ref _ => rfl
 | .two k a b => by unfold Fm.nds xwf Fm.size; rw [List.length_append, List.length_append, List.length_map, a.len, b.len]; rfl
 | .neg a => by unfold Fm.nds xva Fm.size; rw [List.length_append, a.len]; rfl
 | .pow j a => by unfold Fm.nds xva Fm.size; rw [List.length_append, a.len]; rfl
theorem Fm.pos (f : Fm) : 1 ≤ f.size := by cases f <;> simp [Fm.size]
theorem yze (c d : Nat) (x : Nd) : xqj d (xqj c x) = xqj (c + d) x := by
 by_cases h2 : xq8 x.k = true
 · rw [xzu h2, xzu (by exact h2), xzu h2];simp only [Nd.mk.injEq, true_and, and_true];constructor <;> omega
 · by_cases h1 : oneK x.k = true
   · rw [xzi h1, xzi (by exact h1), xzi h1];simp only [Nd.mk.injEq, true_and, and_true];omega
   · have h2' : xq8 x.k = false := by simpa using h2
     have h1' : oneK x.k = false := by simpa using h1
     rw [xju h2' h1', xju h2' h1', xju h2' h1']
def xzx : List Fm → List Nd
 | [] => []
 | f :: r => xzx r ++ f.nds.map (xqj (xzx r).length)
def ChOk (o : List Nat) : List Fm → Prop
 | [] => True
 | f :: r => o.getD ((xzx (f :: r)).length - 1) 0 = (xzx r).length ∧ ChOk o r
theorem xvp (f : Fm) (r : List Fm) : (xzx (f :: r)).length = (xzx r).length + f.size := by
 show (xzx r ++ f.nds.map _).length = _;rw [List.length_append, List.length_map, f.len]
theorem ChOk.snoc {o : List Nat} (s : Nat) : ∀ {fs : List Fm}, ChOk o fs → (xzx fs).length ≤ o.length → ChOk (o ++ [s]) fs
 | [], _, _ => trivial
 | f :: r, h, hl => by
  obtain ⟨h1, h2⟩ := h;rw [xvp] at hl;have hp := f.pos;refine ⟨?_, h2.snoc s (by omega)⟩;rw [ywp (by rw [xvp]; omega)]; exact h1
def Stk (P : List Nd) (o : List Nat) (fs : List Fm) : Prop := P.map xjs = xzx fs ∧ o.length = P.length ∧ ChOk o fs ∧ ∀ f ∈ fs, f.Ok
theorem bare_shift (d : Nat) (x : Nd) : xjs (xqj d x) = xqj d (xjs x) := by
 unfold xqj xjs;dsimp only
 split
 · rfl
 · split <;> rfl
theorem Stk.step {P : List Nd} {o : List Nat} {fs : List Fm} {x : Nd} {s : Nat} (h : Stk P o fs) (hs : xz6 o x = some s) : ∃ gs, Stk (P ++ [x]) (o ++ [s]) gs := by
 obtain ⟨h1, h2, h3, h4⟩ := h;have hlen : (xzx fs).length = P.length := by rw [← h1, List.length_map]
 obtain ⟨hf, _⟩ := xvs hs;have hst : xwj o x = some s := by unfold xz6 at hs; rw [if_pos hf] at hs; exact hs
 have hmap : (P ++ [x]).map xjs = xzx fs ++ [xjs x] := by rw [List.map_append, h1]; rfl
 have hol : (o ++ [s]).length = (P ++ [x]).length := by rw [List.length_append, List.length_append, h2]; rfl
 rcases yzp hf with hk | hk | hk | hk
 · -- a literal
   have hs2 := yjl (o := o) hf (.inl hk);rw [hs2] at hs; injection hs with hs; subst hs
   obtain ⟨k, a, b, n, t, u, p⟩ := x;have hk' : k = 1 := hk;subst hk';unfold xjw at hf;rw [if_pos rfl] at hf;simp only [Bool.and_eq_true, decide_eq_true_eq] at hf;obtain ⟨⟨⟨⟨rfl, rfl⟩, rfl⟩, g1⟩, g2⟩ := hf;have hsh : (Fm.lit t u).nds.map (xqj (xzx fs).length) = [xjs ⟨1, 0, 0, 0, t, u, p⟩] := by
    show [xqj _ _] = _;rw [xju rfl rfl]; rfl
   refine ⟨.lit t u :: fs, ?_, hol, ⟨?_, h3.snoc _ (by omega)⟩, fun f hf => ?_⟩
   · rw [hmap]; show _ = xzx fs ++ _; rw [hsh]
   · rw [xvp];show (o ++ [o.length]).getD ((xzx fs).length + 1 - 1) 0 = _;rw [Nat.add_sub_cancel, hlen, ← h2, xj5]
   · rcases List.mem_cons.1 hf with rfl | hf
     · exact ⟨g1, g2⟩
     · exact h4 f hf
 · -- a name
   have hs2 := yjl (o := o) hf (.inr hk);rw [hs2] at hs; injection hs with hs; subst hs
   obtain ⟨k, a, b, n, t, u, p⟩ := x;have hk' : k = 2 := hk;subst hk';unfold xjw at hf;rw [if_neg (by show ¬ (2 : Int) = 1; decide), if_pos rfl] at hf;simp only [Bool.and_eq_true, decide_eq_true_eq] at hf;obtain ⟨⟨⟨⟨rfl, rfl⟩, rfl⟩, g1⟩, g2⟩ := hf;have hu : u = ⟨#[]⟩ := by
    have h0 : u.data.size = 0 := g1;have h9 : u.data = #[] := Array.eq_empty_of_size_eq_zero h0;cases u; exact congrArg ByteArray.mk h9
   subst hu;have hsh : (Fm.ref t).nds.map (xqj (xzx fs).length) = [xjs ⟨2, 0, 0, 0, t, ⟨#[]⟩, p⟩] := by
    show [xqj _ _] = _;rw [xju rfl rfl]; rfl
   refine ⟨.ref t :: fs, ?_, hol, ⟨?_, h3.snoc _ (by omega)⟩, fun f hf => ?_⟩
   · rw [hmap]; show _ = xzx fs ++ _; rw [hsh]
   · rw [xvp];show (o ++ [o.length]).getD ((xzx fs).length + 1 - 1) 0 = _;rw [Nat.add_sub_cancel, hlen, ← h2, xj5]
   · rcases List.mem_cons.1 hf with rfl | hf
     · exact g2
     · exact h4 f hf
 · -- two children
   have h36 := twoK_iff.1 hk;unfold xwj at hst;rw [if_neg (by omega), if_neg (by omega)] at hst;cases hb : endN o x.b o.length with
   | none => rw [hb] at hst; cases hst
   | some sb =>
    rw [hb] at hst;dsimp only at hst;obtain ⟨j, e1, e2, e3⟩ := xzd hb;obtain ⟨i, e4, e5, e6⟩ := xzd hst;obtain ⟨k, a, b, n, t, u, p⟩ := x;dsimp only at e1 e4;have hk2 : xq8 k = true := hk;unfold xjw at hf;rw [if_neg (by show ¬ k = 1; have : 3 ≤ k := h36.1; omega), if_neg (by show ¬ k = 2; have : 3 ≤ k := h36.1; omega), if_pos hk] at hf;simp only [Bool.and_eq_true, decide_eq_true_eq] at hf;obtain ⟨⟨rfl, g1⟩, g2⟩ := hf;have ht : t = ⟨#[]⟩ := by cases t; exact congrArg ByteArray.mk (Array.eq_empty_of_size_eq_zero g1)
    have hu : u = ⟨#[]⟩ := by cases u; exact congrArg ByteArray.mk (Array.eq_empty_of_size_eq_zero g2)
    subst ht hu;cases fs with
    | nil => have h9 : P.length = 0 := by rw [← hlen]; rfl
             omega
    | cons f r =>
     obtain ⟨c1, c2⟩ := h3;have hfl := xvp f r;have hj : (xzx (f :: r)).length - 1 = j := by omega
     rw [hj, ← e3] at c1;cases r with
     | nil => have h9 : (xzx []).length = 0 := rfl
              omega
     | cons g r =>
      obtain ⟨c3, c4⟩ := c2;have hgl := xvp g r;have hi : (xzx (g :: r)).length - 1 = i := by omega
      rw [hi, ← e6] at c3;have hfp := f.pos;have hgp := g.pos;have hnode : xjs ⟨k, a, b, 0, ⟨#[]⟩, ⟨#[]⟩, p⟩ = xqj (xzx r).length ⟨k, (g.nds.length : Int) - 1, (g.nds.length : Int) + (f.nds.length : Int) - 1, 0, ⟨#[]⟩, ⟨#[]⟩, 0⟩ := by
       rw [xzu hk2];unfold xjs;simp only [Nd.mk.injEq, true_and, and_true];rw [g.len, f.len];constructor <;> omega
      refine ⟨.two k g f :: r, ?_, hol, ⟨?_, ?_⟩, fun y hy => ?_⟩
      · rw [hmap, hnode];show (xzx r ++ g.nds.map _) ++ f.nds.map _ ++ _ = xzx r ++ (xwf k g.nds f.nds 0).map _;unfold xwf;rw [List.map_append, List.map_append, List.map_map, List.append_assoc, List.append_assoc, List.append_assoc]
        congr 2
        congr 1
        · refine List.map_congr_left fun y _ => ?_
          show _ = xqj _ (xqj _ y);rw [yze, hgl, g.len, Nat.add_comm]
      · have e9 : (xzx (.two k g f :: r)).length - 1 = o.length := by rw [xvp]; show (xzx r).length + (g.size + f.size + 1) - 1 = _; omega
        rw [e9, xj5]; omega
      · exact c4.snoc s (by omega)
      · rcases List.mem_cons.1 hy with rfl | hy
        · exact ⟨hk2, h4 g (by simp), h4 f (by simp)⟩
        · exact h4 y (by simp [hy])
 · -- one child
   have hk1 : oneK x.k = true := oneK_iff.2 hk;unfold xwj at hst;rw [if_neg (by omega), if_pos hk] at hst;obtain ⟨j, e1, e2, e3⟩ := xzd hst;cases fs with
   | nil => have h9 : P.length = 0 := by rw [← hlen]; rfl
            omega
   | cons f r =>
    obtain ⟨c1, c2⟩ := h3;have hfl := xvp f r;have hfp := f.pos;have hj : (xzx (f :: r)).length - 1 = j := by omega
    rw [hj, ← e3] at c1;obtain ⟨k, a, b, n, t, u, p⟩ := x;dsimp only at e1 hk hk1;have fin : ∀ (g : Fm), g.nds = xva k n f.nds 0 → g.size = f.size + 1 → g.Ok → xjs ⟨k, a, b, n, t, u, p⟩ = ⟨k, a, 0, n, ⟨#[]⟩, ⟨#[]⟩, 0⟩ → ∃ gs, Stk (P ++ [⟨k, a, b, n, t, u, p⟩]) (o ++ [s]) gs := by
     intro g hg hsz hok hx;have hnode : (⟨k, a, 0, n, ⟨#[]⟩, ⟨#[]⟩, 0⟩ : Nd) = xqj (xzx r).length ⟨k, (f.nds.length : Int) - 1, 0, n, ⟨#[]⟩, ⟨#[]⟩, 0⟩ := by
      rw [xzi hk1];simp only [Nd.mk.injEq, true_and, and_true];rw [f.len]; omega
     refine ⟨g :: r, ?_, hol, ⟨?_, c2.snoc s (by omega)⟩, fun y hy => ?_⟩
     · rw [hmap, hx, hnode];show (xzx r ++ f.nds.map _) ++ _ = xzx r ++ g.nds.map _;rw [hg];unfold xva;rw [List.map_append, List.append_assoc]; rfl
     · have e9 : (xzx (g :: r)).length - 1 = o.length := by rw [xvp, hsz]; omega
       rw [e9, xj5]; omega
     · rcases List.mem_cons.1 hy with rfl | hy
       · exact hok
       · exact h4 y (by simp [hy])
    unfold xjw at hf;rcases hk with rfl | rfl
    · rw [if_neg (by show ¬ (7 : Int) = 1; decide), if_neg (by show ¬ (7 : Int) = 2; decide), if_neg (by show ¬ xq8 7 = true; decide), if_pos rfl] at hf;simp only [Bool.and_eq_true, decide_eq_true_eq] at hf;obtain ⟨⟨⟨rfl, rfl⟩, g1⟩, g2⟩ := hf;have ht : t = ⟨#[]⟩ := by cases t; exact congrArg ByteArray.mk (Array.eq_empty_of_size_eq_zero g1)
      have hu : u = ⟨#[]⟩ := by cases u; exact congrArg ByteArray.mk (Array.eq_empty_of_size_eq_zero g2)
      subst ht hu;exact fin (.neg f) rfl rfl (h4 f (by simp)) rfl
    · rw [if_neg (by show ¬ (8 : Int) = 1; decide), if_neg (by show ¬ (8 : Int) = 2; decide), if_neg (by show ¬ xq8 8 = true; decide), if_neg (by show ¬ (8 : Int) = 7; decide), if_pos rfl] at hf;simp only [Bool.and_eq_true, decide_eq_true_eq] at hf;obtain ⟨⟨⟨⟨rfl, g1⟩, g2⟩, g3⟩, g4⟩ := hf;have ht : t = ⟨#[]⟩ := by cases t; exact congrArg ByteArray.mk (Array.eq_empty_of_size_eq_zero g1)
      have hu : u = ⟨#[]⟩ := by cases u; exact congrArg ByteArray.mk (Array.eq_empty_of_size_eq_zero g2)
      subst ht hu;exact fin (.pow n f) rfl rfl ⟨g3, g4, h4 f (by simp)⟩ rfl
theorem Stk.all {us : List Nd} : ∀ {P : List Nd} {o : List Nat} {fs : List Fm} {q : List Nat}, Stk P o fs → zjj (some o) us = some q → ∃ gs, Stk (P ++ us) q gs := by
 induction us with
 | nil => intro P o fs q h hb; injection hb with hb; subst hb; exact ⟨fs, by rw [List.append_nil]; exact h⟩
 | cons x r ih =>
  intro P o fs q h hb;obtain ⟨s, h1, h2⟩ := xv5 hb;obtain ⟨gs, h3⟩ := h.step h1;obtain ⟨hs, h4⟩ := ih h3 h2;exact ⟨hs, by rw [List.append_assoc] at h4; exact h4⟩
theorem good_fm {ts : List Nd} (h : xq5 ts = true) : ∃ f : Fm, f.Ok ∧ ts.map xjs = f.nds ∧ f.size = ts.length := by
 obtain ⟨h1, h2, o, hb, hol, hlow, h0⟩ := xz4 h;obtain ⟨fs, k1, k2, k3, k4⟩ := Stk.all (P := []) (o := []) (fs := []) ⟨rfl, rfl, trivial, fun f hf => by cases hf⟩ hb;rw [List.nil_append] at k1 k2;cases fs with
 | nil => have h9 := congrArg List.length k1; rw [List.length_map] at h9; have h10 : (xzx []).length = 0 := rfl; omega
 | cons f r =>
  have h9 := congrArg List.length k1;rw [List.length_map] at h9;rw [xvp] at h9;have hc := k3.1;rw [show (xzx (f :: r)).length - 1 = ts.length - 1 by rw [xvp]; omega, yvf (by omega) 0 1, h0] at hc;have hr : xzx r = [] := List.eq_nil_of_length_eq_zero hc.symm;refine ⟨f, k4 f (by simp), ?_, by omega⟩;rw [k1];show xzx r ++ f.nds.map _ = _;rw [hr, List.nil_append];exact map_shift0 f.nds
def xje (k : Int) : Bool := decide (k = 3) || decide (k = 4)
def sgK (k : Int) : Nat := if k = 3 then 43 else if k = 4 then 45 else if k = 5 then 42 else 47
def xwr (f : Fm) : Bool := decide (f.kind = 1) || decide (f.kind = 2)
def brkT (p : Bool) (l : List Tk) : List Tk := if p = true then (3, [40], 0) :: (l ++ [(3, [41], 0)]) else l
def zTk (j : Int) : List Tk := if j < 0 then [(3, [45], 0), (2, yvt j.natAbs, 0)] else [(2, yvt j.natAbs, 0)]
def Fm.tks : Fm → List Tk
 | .lit s u => (2, bytesOf s, 0) :: (if u.size = 0 then [] else [(4, bytesOf u, 0)])
 | .ref s => [(1, bytesOf s, 0)]
 | .two k a b => brkT (!xje k && xje a.kind) a.tks ++ (3, [sgK k], 0) :: brkT (if xje k = true then xje b.kind else xq8 b.kind) b.tks
 | .neg a => (3, [45], 0) :: brkT (xq8 a.kind) a.tks
 | .pow j a => brkT (!xwr a) a.tks ++ (3, [94], 0) :: zTk j
def bN (p : Bool) : Nat := if p = true then 1 else 0
def Fm.dep : Fm → Nat
 | .lit _ _ => 0
 | .ref _ => 0
 | .two k a b => max (a.dep + bN (!xje k && xje a.kind)) (b.dep + bN (if xje k = true then xje b.kind else xq8 b.kind))
 | .neg a => 1 + (a.dep + bN (xq8 a.kind))
 | .pow _ a => a.dep + bN (!xwr a)
def Fm.Pw (m : Nat) : Fm → Prop
 | .lit _ _ => True
 | .ref _ => True
 | .two _ a b => a.Pw m ∧ b.Pw m
 | .neg a => a.Pw m
 | .pow j a => j.natAbs ≤ m ∧ a.Pw m
theorem yvl : ∀ f : Fm, f.Ok → f.dep + 1 ≤ f.size ∧ (xq8 f.kind = true → f.dep + 2 ≤ f.size)
 | .lit _ _, _ => ⟨Nat.le_refl 1, fun h => absurd h (show ¬ xq8 1 = true by decide)⟩
 | .ref _, _ => ⟨Nat.le_refl 1, fun h => absurd h (show ¬ xq8 2 = true by decide)⟩
 | .two k a b, h => by
  have h1 := (yvl a h.2.1).1;have h2 := (yvl b h.2.2).1;have e : ∀ p, bN p ≤ 1 := fun p => by cases p <;> decide
  have h3 := e (!xje k && xje a.kind);have h4 := e (if xje k = true then xje b.kind else xq8 b.kind);have : (Fm.two k a b).dep + 2 ≤ (Fm.two k a b).size := by
   show max _ _ + 2 ≤ a.size + b.size + 1;omega
  exact ⟨by omega, fun _ => this⟩
 | .neg a, h => by
  obtain ⟨h1, h2⟩ := yvl a h;refine ⟨?_, fun h => absurd h (by show ¬ xq8 7 = true; decide)⟩;show 1 + (a.dep + bN (xq8 a.kind)) + 1 ≤ a.size + 1;cases ht : xq8 a.kind
  · show 1 + (a.dep + 0) + 1 ≤ _; omega
  · have := h2 ht; show 1 + (a.dep + 1) + 1 ≤ _; omega
 | .pow j a, h => by
  obtain ⟨h1, h2⟩ := yvl a h.2.2;refine ⟨?_, fun h => absurd h (by show ¬ xq8 8 = true; decide)⟩;have : bN (!xwr a) ≤ 1 := by cases xwr a <;> decide
  show a.dep + bN (!xwr a) + 1 ≤ a.size + 1;omega
theorem small_dec (k : Nat) (hk : k ≤ 64) : xvk (yvt k) 3 = some k ∧ xq0 (yvt k) = true := by
 have h : ∀ k : Fin 65, xvk (yvt k.val) 3 = some k.val ∧ xq0 (yvt k.val) = true := by decide +kernel
 exact h ⟨k, by omega⟩
def EndF (r : List Tk) : Prop := xqp 3 [94] r = false ∧ xqp 4 [] r = false
def EndM (r : List Tk) : Prop := EndF r ∧ ∀ x q, r = x :: q → mulO x = none
theorem zjb {c : Nat} (h : c ≠ 94) (p : Nat) (r : List Tk) : EndF ((3, [c], p) :: r) := by
 refine ⟨?_, rfl⟩;show (decide ((3 : Nat) = 3) && (([94] : List Nat).isEmpty || decide ([c] = [94]))) = false;simp [h]
theorem powT_end (L : Lim) (en : Nat) (t : List Nd) {r : List Tk} (h : EndF r) (n : Nat) : yw1 L en t r n = .ok t r n := by
 unfold yw1;rw [if_neg (by rw [h.1]; decide)]
theorem xvn {L : Lim} {n : Nat} (h : n + 1 ≤ L.nodes) (t : List Nd) (p : Nat) (l : List Tk) : xvb L t p l n = .ok t l (n + 1) := by
 unfold xvb;rw [if_neg (by omega)]
theorem xvw (L : Lim) (f : Rdr) {op : Tk → Option Int} {r : List Tk} (h : ∀ x q, r = x :: q → op x = none) (g : Nat) (t : List Nd) (n : Nat) : xv4 L f op g t r n = .ok t r n := by
 cases g with
 | zero => rfl
 | succ g =>
  cases r with
  | nil => rfl
  | cons x q => unfold xv4; rw [h x q rfl]
theorem loopT_step (L : Lim) (f : Rdr) {op : Tk → Option Int} {x : Tk} {k : Int} (h : op x = some k) (g : Nat) (t : List Nd) (r : List Tk) (n : Nat) : xv4 L f op (g + 1) t (x :: r) n = (f r n).next fun u r2 n2 => (xvb L (xwf k t u x.2.2) x.2.2 r2 n2).next fun t2 r3 n3 => xv4 L f op g t2 r3 n3 := by
 conv => lhs; unfold xv4
 rw [h]
theorem sgK_mul {k : Int} (h : xq8 k = true) (hs : xje k = false) (p : Nat) : mulO (3, [sgK k], p) = some k := by
 have h36 := twoK_iff.1 h;unfold xje at hs;simp only [Bool.or_eq_false_iff, decide_eq_false_iff_not] at hs;have : k = 5 ∨ k = 6 := by omega
 rcases this with rfl | rfl <;> rfl
theorem sgK_add {k : Int} (hs : xje k = true) (p : Nat) : addO (3, [sgK k], p) = some k ∧ mulO (3, [sgK k], p) = none ∧ sgK k ≠ 94 := by
 unfold xje at hs;simp only [Bool.or_eq_true, decide_eq_true_eq] at hs;rcases hs with rfl | rfl
 · exact ⟨rfl, rfl, by decide⟩
 · exact ⟨rfl, rfl, by decide⟩
theorem sgK_94 (k : Int) : sgK k ≠ 94 := by unfold sgK; split; · decide
                                            · split; · decide
                                              · split <;> decide
theorem xjo {en kd : Nat} {tx : List Nat} {t : Tk} (h : isT kd tx t = true) (r : List Tk) (n : Nat) : xjr en kd tx (t :: r) n = .ok t r n := by rw [xwh, if_pos h]
theorem facS_45 (L : Lim) (en : Nat) (f : Rdr) (p : Nat) (r : List Tk) (n : Nat) : zq9 L en (some f) ((3, [45], p) :: r) n = (f r n).next fun a q m => xvb L (xva 7 0 a p) p q m := rfl
theorem facS_40 (L : Lim) (en : Nat) (f : Rdr) (p : Nat) (r : List Tk) (n : Nat) : zq9 L en (some f) ((3, [40], p) :: r) n = (yjw L f r n).next fun t q m => (xjr en 3 [41] q m).next fun _ q m => yw1 L en t q m := rfl
theorem facS_2 (L : Lim) (en : Nat) (sub : Option Rdr) (s : List Nat) (p : Nat) (r : List Tk) (n : Nat) : zq9 L en sub ((2, s, p) :: r) n = (yqm L en ((2, s, p) :: r) n).next fun t q m => yw1 L en t q m := rfl
theorem facS_1 (L : Lim) (en : Nat) (sub : Option Rdr) (s : List Nat) (p : Nat) (r : List Tk) (n : Nat) : zq9 L en sub ((1, s, p) :: r) n = (yqm L en ((1, s, p) :: r) n).next fun t q m => yw1 L en t q m := rfl
theorem atomT_24 (L : Lim) (en : Nat) (s u : List Nat) (p q : Nat) (r : List Tk) (n : Nat) : yqm L en ((2, s, p) :: (4, u, q) :: r) n = xvb L (litN s u p) p r n := rfl
theorem atomT_2 (L : Lim) (en : Nat) (s : List Nat) (p : Nat) {r : List Tk} (h : xqp 4 [] r = false) (n : Nat) : yqm L en ((2, s, p) :: r) n = xvb L (litN s [] p) p r n := by
 cases r with
 | nil => rfl
 | cons y q =>
  show (if isT 4 [] y = true then _ else _) = _;have h2 : isT 4 [] y = false := h;rw [if_neg (by rw [h2]; decide)]
theorem atomT_1 (L : Lim) (en : Nat) {s : List Nat} (h : xjn s = true) (p : Nat) (r : List Tk) (n : Nat) : yqm L en ((1, s, p) :: r) n = xvb L (refN s p) p r n := by
 show (if (1 : Nat) = 1 ∧ xjn s = true then _ else _) = _;rw [if_pos ⟨rfl, h⟩]
theorem powT_m (L : Lim) (en : Nat) (t : List Nd) (p q : Nat) (r : List Tk) (n : Nat) : yw1 L en t ((3, [94], p) :: (3, [45], q) :: r) n = powB L en t p true r n := rfl
theorem powT_p (L : Lim) (en : Nat) (t : List Nd) (p q : Nat) (s : List Nat) (r : List Tk) (n : Nat) : yw1 L en t ((3, [94], p) :: (2, s, q) :: r) n = powB L en t p false ((2, s, q) :: r) n := rfl
structure Rds (L : Lim) (en : Nat) (f : Fm) : Prop where
 fac : xq8 f.kind = false → ∀ (d : Nat) (r : List Tk) (n : Nat), f.dep ≤ d → EndF r → n + f.size ≤ L.nodes → yjs L en d (f.tks ++ r) n = .ok f.nds r (n + f.size)
 term : xje f.kind = false → ∀ (d : Nat) (r : List Tk) (n : Nat), f.dep ≤ d → EndF r → n + f.size ≤ L.nodes → yq5 L (yjs L en d) (f.tks ++ r) n = xv4 L (yjs L en d) mulO r.length f.nds r (n + f.size)
 form : ∀ (d : Nat) (r : List Tk) (n : Nat), f.dep ≤ d → EndM r → n + f.size ≤ L.nodes → yjw L (yjs L en d) (f.tks ++ r) n = xv4 L (yq5 L (yjs L en d)) addO r.length f.nds r (n + f.size)
theorem Rds.brk {L : Lim} {en : Nat} {f : Fm} (h : Rds L en f) {d : Nat} (hd : f.dep + 1 ≤ d) {r : List Tk} (hr : xqp 3 [94] r = false) {n : Nat} (hn : n + f.size ≤ L.nodes) : yjs L en d ((3, [40], 0) :: (f.tks ++ [(3, [41], 0)]) ++ r) n = .ok f.nds r (n + f.size) := by
 obtain ⟨d, rfl⟩ : ∃ e, d = e + 1 := ⟨d - 1, by omega⟩;have h1 := h.form d ((3, [41], 0) :: r) n (by omega) ⟨zjb (by decide) _ _, fun x q e => by injection e with e _; subst e; rfl⟩ hn;rw [xvw L _ (fun x q e => by injection e with e _; subst e; rfl)] at h1;have htl : ((3, [40], 0) :: (f.tks ++ [(3, [41], 0)]) ++ r : List Tk) = (3, [40], 0) :: (f.tks ++ (3, [41], 0) :: r) := by simp
 rw [htl];show zq9 L en (some (yjs L en d)) _ n = _;rw [facS_40, h1, PaR.next_ok, xjo rfl, PaR.next_ok];unfold yw1;rw [if_neg (by rw [hr]; decide)]
theorem Rds.opd {L : Lim} {en : Nat} {f : Fm} (h : Rds L en f) {p : Bool} (hp : p = false → xq8 f.kind = false) {d : Nat} (hd : f.dep + bN p ≤ d) {r : List Tk} (hr : EndF r) {n : Nat} (hn : n + f.size ≤ L.nodes) : yjs L en d (brkT p f.tks ++ r) n = .ok f.nds r (n + f.size) := by
 cases p with
 | true => exact h.brk hd hr.1 hn
 | false => exact h.fac (hp rfl) d r n hd hr hn
theorem isNam_word {l : List Nat} (h : xjn l = true) : yqx l = true := by unfold xjn at h; rw [Bool.and_eq_true] at h; exact h.1
theorem Rds.of_fac {L : Lim} {en : Nat} {f : Fm} (hk : xq8 f.kind = false) (h : ∀ (d : Nat) (r : List Tk) (n : Nat), f.dep ≤ d → EndF r → n + f.size ≤ L.nodes → yjs L en d (f.tks ++ r) n = .ok f.nds r (n + f.size)) : Rds L en f := by
 have ht : ∀ (d : Nat) (r : List Tk) (n : Nat), f.dep ≤ d → EndF r → n + f.size ≤ L.nodes → yq5 L (yjs L en d) (f.tks ++ r) n = xv4 L (yjs L en d) mulO r.length f.nds r (n + f.size) := by
  intro d r n hd hr hn;unfold yq5 rowT;rw [h d r n hd hr hn, PaR.next_ok]
 refine ⟨fun _ => h, fun _ => ht, fun d r n hd hr hn => ?_⟩;unfold yjw;show ((yq5 L (yjs L en d)) _ n).next _ = _;rw [ht d r n hd hr.1 hn, xvw L _ hr.2, PaR.next_ok]
theorem xzn (s : ByteArray) : strOf (bytesOf s) = s := xzt s
theorem xwe {u : ByteArray} (h : u.size = 0) : u = ⟨#[]⟩ := by cases u; exact congrArg ByteArray.mk (Array.eq_empty_of_size_eq_zero h)
theorem yv6 {f : Fm} (h : xwr f = true) : xq8 f.kind = false := by
 unfold xwr at h;simp only [Bool.or_eq_true, decide_eq_true_eq] at h;rcases h with h | h <;> rw [h] <;> decide
theorem zqj (L : Lim) (en : Nat) (hL : L.power ≤ 64) : ∀ f : Fm, f.Ok → f.Pw L.power → Rds L en f
 | .lit s u, hf, hp => by
  refine Rds.of_fac (show xq8 1 = false by decide) fun d r n hd hr hn => ?_
  have hn1 : n + 1 ≤ L.nodes := hn;have key : ∀ sub : Option Rdr, zq9 L en sub ((Fm.lit s u).tks ++ r) n = .ok (Fm.lit s u).nds r (n + 1) := by
   intro sub;unfold Fm.tks;by_cases hu : u.size = 0
   · rw [if_pos hu, List.cons_append, List.nil_append, facS_2, atomT_2 L en _ _ hr.2, xvn hn1, PaR.next_ok, powT_end L en _ hr];unfold litN Fm.nds;rw [xzn, xwe hu]; rfl
   · rw [if_neg hu, List.cons_append, List.cons_append, List.nil_append, facS_2, atomT_24, xvn hn1, PaR.next_ok, powT_end L en _ hr];unfold litN Fm.nds;rw [xzn, xzn]; rfl
  cases d with
  | zero => exact key none
  | succ d => exact key _
 | .ref s, hf, hp => by
  refine Rds.of_fac (show xq8 2 = false by decide) fun d r n hd hr hn => ?_
  have hn1 : n + 1 ≤ L.nodes := hn;have key : ∀ sub : Option Rdr, zq9 L en sub ((Fm.ref s).tks ++ r) n = .ok (Fm.ref s).nds r (n + 1) := by
   intro sub;unfold Fm.tks;rw [List.cons_append, List.nil_append, facS_1, atomT_1 L en hf, xvn hn1, PaR.next_ok, powT_end L en _ hr];unfold refN Fm.nds;rw [xzn]; rfl
  cases d with
  | zero => exact key none
  | succ d => exact key _
 | .neg a, hf, hp => by
  have ih := zqj L en hL a hf hp;refine Rds.of_fac (by show xq8 7 = false; decide) fun d r n hd hr hn => ?_
  have hd' : 1 + (a.dep + bN (xq8 a.kind)) ≤ d := hd;have hn' : n + (a.size + 1) ≤ L.nodes := hn;obtain ⟨d, rfl⟩ : ∃ e, d = e + 1 := ⟨d - 1, by omega⟩;have h1 := ih.opd (p := xq8 a.kind) (fun h => h) (d := d) (by omega) hr (n := n) (by omega);show zq9 L en (some (yjs L en d)) ((3, [45], 0) :: (brkT (xq8 a.kind) a.tks ++ r)) n = _;rw [facS_45, h1, PaR.next_ok, xvn (by omega)]; rfl
 | .pow j a, hf, hp => by
  have ih := zqj L en hL a hf.2.2 hp.2;refine Rds.of_fac (by show xq8 8 = false; decide) fun d r n hd hr hn => ?_
  have hd' : a.dep + bN (!xwr a) ≤ d := hd;have hn' : n + (a.size + 1) ≤ L.nodes := hn;have hj : j.natAbs ≤ L.power := hp.1;have h64 := hL;obtain ⟨hs, _⟩ := small_dec j.natAbs (by omega);have hpw : ∀ m, m + 1 ≤ L.nodes → yw1 L en a.nds ((3, [94], 0) :: zTk j ++ r) m = .ok (xva 8 j a.nds 0) r (m + 1) := by
   intro m hm;unfold zTk;by_cases h0 : j < 0
   · rw [if_pos h0];show yw1 L en a.nds ((3, [94], 0) :: (3, [45], 0) :: (2, yvt j.natAbs, 0) :: r) m = _;rw [powT_m];unfold powB;rw [xjo rfl, PaR.next_ok];dsimp only;rw [hs];dsimp only;rw [if_neg (by omega), if_pos rfl, xvn hm, show -((j.natAbs : Nat) : Int) = j by omega]
   · rw [if_neg h0];show yw1 L en a.nds ((3, [94], 0) :: (2, yvt j.natAbs, 0) :: r) m = _;rw [powT_p];unfold powB;rw [xjo rfl, PaR.next_ok];dsimp only;rw [hs];dsimp only;rw [if_neg (by omega), if_neg (by decide), xvn hm, show ((j.natAbs : Nat) : Int) = j by omega]
  cases hl : xwr a with
  | false =>
   rw [hl] at hd';have hd2 : a.dep + 1 ≤ d := hd';obtain ⟨d, rfl⟩ : ∃ e, d = e + 1 := ⟨d - 1, by omega⟩;have h1 := ih.form d ((3, [41], 0) :: ((3, [94], 0) :: zTk j ++ r)) n (by omega) ⟨zjb (by decide) _ _, fun x q e => by injection e with e _; subst e; rfl⟩ (by omega);rw [xvw L _ (fun x q e => by injection e with e _; subst e; rfl)] at h1;have htk : (Fm.pow j a).tks ++ r = (3, [40], 0) :: (a.tks ++ (3, [41], 0) :: ((3, [94], 0) :: zTk j ++ r)) := by
    show brkT (!xwr a) a.tks ++ _ ++ r = _;rw [hl];show (3, [40], 0) :: (a.tks ++ [(3, [41], 0)]) ++ _ ++ r = _
    simp
   rw [htk];show zq9 L en (some (yjs L en d)) _ n = _;rw [facS_40, h1, PaR.next_ok, xjo rfl, PaR.next_ok, hpw _ (by omega)]; rfl
  | true =>
   have htk : (Fm.pow j a).tks ++ r = a.tks ++ ((3, [94], 0) :: zTk j ++ r) := by
    show brkT (!xwr a) a.tks ++ _ ++ r = _;rw [hl];show a.tks ++ _ ++ r = _
    simp
   rw [htk];have key : ∀ sub : Option Rdr, zq9 L en sub (a.tks ++ ((3, [94], 0) :: zTk j ++ r)) n = .ok (xva 8 j a.nds 0) r (n + (a.size + 1)) := by
    intro sub;have hsz : a.size = 1 := by
     cases a with
     | lit _ _ => rfl
     | ref _ => rfl
     | two k x y => exact absurd (yv6 hl) (by rw [show (Fm.two k x y).kind = k from rfl, hf.2.2.1]; decide)
     | neg _ => cases hl
     | pow _ _ => cases hl
    have hn1 : n + 1 ≤ L.nodes := by omega
    cases a with
    | lit s u =>
     unfold Fm.tks;by_cases hu : u.size = 0
     · rw [if_pos hu, List.cons_append, List.nil_append, facS_2, atomT_2 L en _ _ rfl, xvn hn1, PaR.next_ok];have h2 := hpw (n + 1) (by omega);unfold litN;unfold Fm.nds at h2 ⊢;rw [xzn, show strOf ([] : List Nat) = u from (xwe hu).symm];exact h2
     · rw [if_neg hu, List.cons_append, List.cons_append, List.nil_append, facS_2, atomT_24, xvn hn1, PaR.next_ok];have h2 := hpw (n + 1) (by omega);unfold litN;unfold Fm.nds at h2 ⊢;rw [xzn, xzn];exact h2
    | ref s =>
     unfold Fm.tks;rw [List.cons_append, List.nil_append, facS_1, atomT_1 L en hf.2.2, xvn hn1, PaR.next_ok];have h2 := hpw (n + 1) (by omega);unfold refN;unfold Fm.nds at h2 ⊢;rw [xzn];exact h2
    | two k x y => exact absurd (yv6 hl) (by rw [show (Fm.two k x y).kind = k from rfl, hf.2.2.1]; decide)
    | neg _ => cases hl
    | pow _ _ => cases hl
   cases d with
   | zero => exact key none
   | succ d => exact key _
 | .two k a b, hf, hp => by
  obtain ⟨hk, ha, hb⟩ := hf;have iha := zqj L en hL a ha hp.1;have ihb := zqj L en hL b hb hp.2;have hRs : ∀ d, RdS (yjs L en d) := facT_s L en;have term : xje k = false → ∀ (d : Nat) (r : List Tk) (n : Nat), (Fm.two k a b).dep ≤ d → EndF r → n + (Fm.two k a b).size ≤ L.nodes → yq5 L (yjs L en d) ((Fm.two k a b).tks ++ r) n = xv4 L (yjs L en d) mulO r.length (Fm.two k a b).nds r (n + (Fm.two k a b).size) := by
   intro hs d r n hd hr hn;have hd' : max (a.dep + bN (!xje k && xje a.kind)) (b.dep + bN (if xje k = true then xje b.kind else xq8 b.kind)) ≤ d := hd;have hn' : n + (a.size + b.size + 1) ≤ L.nodes := hn;rw [hs] at hd';simp only [Bool.not_false, Bool.true_and, Bool.false_eq_true, if_false] at hd';have htk : (Fm.two k a b).tks ++ r = brkT (xje a.kind) a.tks ++ ((3, [sgK k], 0) :: (brkT (xq8 b.kind) b.tks ++ r)) := by
    show brkT (!xje k && xje a.kind) a.tks ++ (3, [sgK k], 0) :: brkT (if xje k = true then xje b.kind else xq8 b.kind) b.tks ++ r = _;rw [hs]
    simp
   rw [htk];have hr1 : EndF ((3, [sgK k], 0) :: (brkT (xq8 b.kind) b.tks ++ r)) := zjb (sgK_94 k) _ _;have hstep : ∀ g, r.length ≤ g → xv4 L (yjs L en d) mulO (g + 1) a.nds ((3, [sgK k], 0) :: (brkT (xq8 b.kind) b.tks ++ r)) (n + a.size) = xv4 L (yjs L en d) mulO r.length (Fm.two k a b).nds r (n + (Fm.two k a b).size) := by
    intro g hg;rw [loopT_step L _ (sgK_mul hk hs 0), ihb.opd (p := xq8 b.kind) (fun h => h) (d := d) (by omega) hr (n := n + a.size) (by omega), PaR.next_ok, xvn (by omega), PaR.next_ok];have e := loopT_len L (hRs d) mulO g (Fm.two k a b).nds r (n + (Fm.two k a b).size) hg;have e3 : n + (Fm.two k a b).size = n + a.size + b.size + 1 := by show n + (a.size + b.size + 1) = _; omega
    rw [e3] at e ⊢;rw [← e]; rfl
   have hlen : ((3, [sgK k], 0) :: (brkT (xq8 b.kind) b.tks ++ r) : List Tk).length = (brkT (xq8 b.kind) b.tks ++ r).length + 1 := by rw [List.length_cons]
   cases hsa : xje a.kind with
   | false =>
    show yq5 L (yjs L en d) (a.tks ++ _) n = _;rw [iha.term hsa d _ n (by omega) hr1 (by omega), hlen];exact hstep _ (by rw [List.length_append]; omega)
   | true =>
    rw [hsa] at hd';have hda : a.dep + 1 ≤ d := by have : bN true = 1 := rfl; omega
    unfold yq5 rowT;have h2 := iha.brk hda hr1.1 (n := n) (by omega);show (yjs L en d ((3, [40], 0) :: (a.tks ++ [(3, [41], 0)]) ++ _) n).next _ = _;rw [h2, PaR.next_ok, hlen];exact hstep _ (by rw [List.length_append]; omega)
  refine ⟨fun h => absurd hk (by rw [show (Fm.two k a b).kind = k from rfl] at h; rw [h]; decide), term, fun d r n hd hr hn => ?_⟩;cases hs : xje k with
  | false =>
   unfold yjw;show ((yq5 L (yjs L en d)) _ n).next _ = _;rw [term hs d r n hd hr.1 hn, xvw L _ hr.2, PaR.next_ok]
  | true =>
   have hd' : max (a.dep + bN (!xje k && xje a.kind)) (b.dep + bN (if xje k = true then xje b.kind else xq8 b.kind)) ≤ d := hd;have hn' : n + (a.size + b.size + 1) ≤ L.nodes := hn;rw [hs] at hd';simp only [Bool.not_true, Bool.false_and, if_true] at hd';have hb0 : bN false = 0 := rfl;rw [hb0] at hd';have htk : (Fm.two k a b).tks ++ r = a.tks ++ ((3, [sgK k], 0) :: (brkT (xje b.kind) b.tks ++ r)) := by
    show brkT (!xje k && xje a.kind) a.tks ++ (3, [sgK k], 0) :: brkT (if xje k = true then xje b.kind else xq8 b.kind) b.tks ++ r = _;rw [hs];show a.tks ++ _ ++ r = _
    simp
   obtain ⟨hadd, hmul, _⟩ := sgK_add hs 0;rw [htk, iha.form d _ n (by omega) ⟨zjb (sgK_94 k) _ _, fun x q e => by injection e with e _; subst e; exact hmul⟩ (by omega), List.length_cons];rw [loopT_step L _ hadd];have hbt : yq5 L (yjs L en d) (brkT (xje b.kind) b.tks ++ r) (n + a.size) = .ok b.nds r (n + a.size + b.size) := by
    cases hsb : xje b.kind with
    | false =>
     show yq5 L (yjs L en d) (b.tks ++ r) _ = _;rw [ihb.term hsb d r _ (by omega) hr.1 (by omega), xvw L _ hr.2]
    | true =>
     rw [hsb] at hd';have hdb : b.dep + 1 ≤ d := by have : bN true = 1 := rfl; omega
     unfold yq5 rowT;have h2 := ihb.brk hdb hr.1.1 (n := n + a.size) (by omega);show (yjs L en d ((3, [40], 0) :: (b.tks ++ [(3, [41], 0)]) ++ r) _).next _ = _;rw [h2, PaR.next_ok, xvw L _ hr.2]
   rw [hbt, PaR.next_ok, xvn (by omega), PaR.next_ok];have e := loopT_len L (rowT_s L (hRs d) mulO) addO (brkT (xje b.kind) b.tks ++ r).length (Fm.two k a b).nds r (n + (Fm.two k a b).size) (by rw [List.length_append]; omega);have e3 : n + (Fm.two k a b).size = n + a.size + b.size + 1 := by show n + (a.size + b.size + 1) = _; omega
   rw [e3] at e ⊢;exact e
def lexG (a : Nat) (l : List Nat) : LR := yv5 (l.length + 1) a l
theorem lexT_G (l : List Nat) : lexT l = lexG 0 l := rfl
theorem lexG_nil (a : Nat) : lexG a [] = .ok [] := rfl
theorem lexG_skip {c : Nat} {r : List Nat} {n : Nat} (h : xwq c r = .skip n) (a : Nat) : lexG a (c :: r) = lexG (a + n) ((c :: r).drop n) := by
 have hl := lexS_len.1 n h;unfold lexG
 conv => lhs; unfold yv5
 rw [h];exact yqf _ _ _ _ (by rw [List.length_drop, List.length_cons]; omega) (by omega)
theorem yw9 {c : Nat} {r s : List Nat} {k n : Nat} (h : xwq c r = .tok k s n) (a : Nat) : lexG a (c :: r) = consL (k, s, a) (lexG (a + n) ((c :: r).drop n)) := by
 have hl := lexS_len.2 k s n h;unfold lexG
 conv => lhs; unfold yv5
 rw [h];show consL (k, s, a) (yv5 (c :: r).length (a + n) ((c :: r).drop n)) = _;rw [yqf (c :: r).length (((c :: r).drop n).length + 1) _ _ (by rw [List.length_drop, List.length_cons]; omega) (by omega)]
theorem lexG_bl {c : Nat} (h : isBl c = true) (a : Nat) (l : List Nat) : lexG a (c :: l) = lexG (a + 1) l := by
 have hs : xwq c l = .skip 1 := by unfold xwq; rw [if_pos h]
 exact lexG_skip hs a
theorem isSg_not {c : Nat} (h : isSg c = true) : isBl c = false ∧ c ≠ 35 ∧ yjv c = false ∧ xq2 c = false ∧ c ≠ 91 := by
 unfold isSg at h;simp only [List.contains_cons, List.contains_nil, Bool.or_false, Bool.or_eq_true, beq_iff_eq] at h;rcases h with rfl | rfl | rfl | rfl | rfl | rfl | rfl | rfl | rfl | rfl <;> decide
theorem lexG_sg {c : Nat} (h : isSg c = true) (a : Nat) (l : List Nat) : lexG a (c :: l) = consL (3, [c], a) (lexG (a + 1) l) := by
 obtain ⟨h1, h2, h3, h4, h5⟩ := isSg_not h;have hs : xwq c l = .tok 3 [c] 1 := by
  unfold xwq;rw [if_neg (by rw [h1]; decide), if_neg h2, if_neg (by rw [h3]; decide), if_neg (by rw [h4]; decide), if_neg h5, if_pos h]
 exact yw9 hs a
def StopW (l : List Nat) : Prop := l = [] ∨ ∃ d q, l = d :: q ∧ yvc d = false
def yqz (l : List Nat) : Prop := l = [] ∨ ∃ d q, l = d :: q ∧ xq2 d = false ∧ d ≠ 46 ∧ yjv d = false
theorem while_end {p : Nat → Bool} {u l : List Nat} (hu : u.all p = true) (hl : l = [] ∨ ∃ d q, l = d :: q ∧ p d = false) : (u ++ l).takeWhile p = u := by
 rcases hl with rfl | ⟨d, q, rfl, hd⟩
 · rw [List.append_nil]; exact take_all hu
 · exact while_at hd hu
theorem lexG_wd {w l : List Nat} (h : yqx w = true) (hl : StopW l) (a : Nat) : lexG a (w ++ l) = consL (1, w, a) (lexG (a + w.length) l) := by
 cases w with
 | nil => cases h
 | cons c r =>
  unfold yqx at h;simp only [Bool.and_eq_true, decide_eq_true_eq] at h;obtain ⟨⟨hc, hr⟩, h16⟩ := h;obtain ⟨n1, n2⟩ := lt_not hc;have hw := while_end hr hl;have hs : xwq c (r ++ l) = .tok 1 (c :: r) (1 + r.length) := by
   unfold xwq;rw [if_neg (by rw [n1]; decide), if_neg n2, if_pos hc, hw, if_neg (by omega), show 1 + r.length = r.length + 1 by omega, List.take_succ_cons, List.take_left]
  rw [List.cons_append, yw9 hs, show 1 + r.length = (c :: r).length by rw [List.length_cons]; omega, ← List.cons_append, List.drop_left]
theorem litGood_len {w : List Nat} (h : xq0 w = true) : xjv w = w.length := (litGood_iff.1 h).2.2
theorem lexG_num {w l : List Nat} (h : xq0 w = true) (hl : yqz l) (a : Nat) : lexG a (w ++ l) = consL (2, w, a) (lexG (a + w.length) l) := by
 obtain ⟨ww, f, x, ho, e⟩ := good_mk h;have hww := ho.whole;cases w with
 | nil => have := (litGood_iff.1 h).1; simp at this
 | cons c r =>
  have hc : xq2 c = true := by
   cases ww with
   | nil => exact absurd rfl hww.2
   | cons c' w' =>
    unfold yjd at e;simp only [List.cons_append] at e;injection e with e1 _
    rw [e1];exact List.all_eq_true.1 hww.1 c' (by simp)
  have hlen := (litGood_iff.1 h).2.1;have hll : xjv (c :: (r ++ l)) = (c :: r).length := by
   rcases hl with rfl | ⟨d, q, rfl, h1, h2, h3⟩
   · rw [List.append_nil]; exact litGood_len h
   · rw [← List.cons_append];refine litLen_more h q ⟨h1, h2, ?_⟩;rintro rfl; exact absurd h3 (by decide)
  have hnot : isBl c = false ∧ c ≠ 35 ∧ yjv c = false := by
   have h48 : 48 ≤ c ∧ c ≤ 57 := by unfold xq2 at hc; simpa using hc
   refine ⟨?_, by omega, ?_⟩
   · unfold isBl; simp; omega
   · unfold yjv; simp; omega
  have hs : xwq c (r ++ l) = .tok 2 (c :: r) (c :: r).length := by
   unfold xwq;rw [if_neg (by rw [hnot.1]; decide), if_neg hnot.2.1, if_neg (by rw [hnot.2.2]; decide), if_pos hc, hll, ← List.cons_append, List.take_left, List.drop_left, if_neg];rintro (h1 | h1)
   · omega
   · rcases hl with rfl | ⟨d, q, rfl, k1, k2, k3⟩
     · cases h1
     · have h9 : (yjv d || decide (d = 46)) = true := h1;rw [k3, decide_eq_false k2] at h9; cases h9
  rw [List.cons_append, yw9 hs, ← List.cons_append, List.drop_left]
theorem lexG_un {u l : List Nat} (hu : u.all yqg = true) (h1 : 1 ≤ u.length) (h2 : u.length ≤ 200) (a : Nat) : lexG a (91 :: (u ++ 93 :: l)) = consL (4, u, a) (lexG (a + (u.length + 2)) l) := by
 have hw : (u ++ 93 :: l).takeWhile yqg = u := while_at (by decide) hu;have hs : xwq 91 (u ++ 93 :: l) = .tok 4 u (u.length + 2) := by
  unfold xwq;rw [if_neg (by decide), if_neg (by decide), if_neg (by decide), if_neg (by decide), if_pos rfl, hw, List.take_left, List.drop_left, if_neg];rintro (h | h | h)
  · omega
  · omega
  · cases h
 rw [yw9 hs]
 congr 2
 rw [List.drop_succ_cons, show u.length + 1 = (u ++ [93]).length by simp, show u ++ 93 :: l = (u ++ [93]) ++ l by simp, List.drop_left]
end Go.Proofs.YtannifhcjcbkcaaGreatDoor
