/- Part 3 of the texts that the statements of this seat lean on: mathematics, and what functions answer, as contracts over memory; each part says its own conditions. -/
import Derived.Test.YtannifhcjcbkcaaGreatDoorMB2
import Derived.Laws.CopyOwn
set_option linter.unusedVariables false
set_option maxHeartbeats 8000000
namespace Go.Proofs.YtannifhcjcbkcaaGreatDoor
open Go.RowKit Limb
open Lib (hid)
def Mild (ts : List Nd) : Prop := ts.length ≤ 1000000 ∧ ∀ x ∈ ts, x.t.size ≤ 1000000 ∧ x.u.size ≤ 1000000
theorem Mild.at {ts : List Nd} (h : Mild ts) {i : Nat} {x : Nd} (hx : ts[i]? = some x) : x.t.size ≤ 1000000 ∧ x.u.size ≤ 1000000 := h.2 x (List.mem_of_getElem? hx)
theorem made_int (W : World) (n : Nat) (hn : n ≤ 1000000) : (Instr.makeSlice 81 (.int .i64 (n : Int)) (.int .i64 (n : Int))).run Tryz.prog W = .ok (.slice (some ⟨W.heap.size, 0, none⟩) n n) (W.alloc (.cells (ints .i64 (List.replicate n 0)) 3)) := by
 obtain ⟨i0, z, h1, h2, h3, h4, h5, h6, h7⟩ := (zjc Tryz.underlying81 (v := .int .i64 0) (b := 8) (by kernel_rfl) rfl (by decide) (by decide) : Elem Tryz.prog 81 3 1);have hz : z = .int .i64 0 := by
  have : (Tryz.prog.info? 3).map (·.zero) = some (some (.int .i64 0)) := by kernel_rfl
  rw [h2] at this;simp [h3] at this;exact this
 have h := run_make (P := Tryz.prog) W 81 3 i0 z h1 h2 h3 .i64 .i64 (n : Int) (n : Int) (by omega) (by omega) (by have : i0.bytes * n ≤ 1000 * 1000000 := Nat.mul_le_mul h7 hn
                                                                                                                  have e : (i0.bytes : Int) * (n : Int) = ((i0.bytes * n : Nat) : Int) := by simp
                                                                                                                  rw [e]; omega) (by omega)
 rw [h4, hz, Int.toNat_natCast, Nat.mul_one] at h;have e : madeCells (Value.int .i64 0).cells n = ints .i64 (List.replicate n 0) := by
  apply Array.toList_inj.1
  show (madeCells #[Value.int .i64 0] n).toList = _;rw [toList_madeCells_one];simp [ints]
 rw [e] at h;exact h
theorem nuR_new (W : World) (n : Nat) : NuR (W.alloc (.cells (ints .i64 (List.replicate n 0)) 3)) W.heap.size 3 [] n := by
 unfold NuR;rw [List.map_nil, List.nil_append];exact xqd W 3 _
set_option maxRecDepth 100000 in
theorem xw5 {w : World} {A : Option Addr} {n c : Nat} {ts : List Nd} (h : TreR w A n c ts) (hm : Mild ts) (T : XTab w) (v : Bool) (hv : xq5 ts = v) :
 Calls Tryz.prog 54 #[.slice A n c] w fun e w' => e = .returned (.bool v) ∧ Below w.heap.size w w' := by
 obtain ⟨hn, hc, hcm, _⟩ := id h;have hn6 := hm.1;rw [← hn] at hn6;have H := hid h;have HM := hid hm;have HT := hid T;have HN := hid hn;clear h hm T hn;by_cases h0 : n < 1
 · rw [goodT_empty (by rw [← HN.out]; exact h0)] at hv;subst hv;obtain rfl : n = 0 := by omega
   go_enter Tryz.func54, Tryz.ntmps54;go_wp2
   go_ret
   exact ⟨rfl, Below.refl _ _⟩
 · have e0 : ((n : Int) == 0) = false := by rw [beq_eq_false_iff_ne]; omega
   by_cases h2 : 2000 < n
   · rw [goodT_long (by rw [← HN.out]; exact h2)] at hv;subst hv;have e2 : decide ((2000 : Int) < (n : Int)) = true := decide_eq_true (by omega);go_enter Tryz.func54, Tryz.ntmps54;go_wp2
     go_ret
     exact ⟨rfl, Below.refl _ _⟩
   · have e2 : decide ((2000 : Int) < (n : Int)) = false := decide_eq_false (by omega);have HV := hid hv;have hmk := made_int w n hn6;have bw := xqc w (.cells (ints .i64 (List.replicate n 0)) 3);have HS0 := hid (nuR_new w n);clear hv;go_enter Tryz.func54, Tryz.ntmps54;go_wp2
     generalize w.alloc (.cells (ints .i64 (List.replicate n 0)) 3) = w1 at *;obtain ⟨q, hq⟩ : ∃ g, g = w.heap.size := ⟨_, rfl⟩;rw [← hq] at HS0 ⊢;clear hmk;have HQ : Hid (w.heap.size ≤ q) := by show _ ≤ _; omega
     clear hq;have HB0 := hid bw;clear bw
     go_loopw [21] (fun i wr => ∃ os : List Nat, i = .int .i64 (os.length : Int) ∧ os.length ≤ n ∧ Hid (yzt (ts.take os.length) = some os) ∧ Hid (NuR wr q 3 os (n - os.length)) ∧ Hid (Below w.heap.size w wr)) (fun i _ => n - (intOf i).toNat)
     case atStart => exact ⟨[], rfl, Nat.zero_le _, rfl, HS0, HB0⟩
     case round =>
      obtain ⟨os, rfl, hk, HBe, HS, HB⟩ := hrel;have hl6 : os.length ≤ 1000000 := by omega
      have HLow := hid (zqd HBe.out);by_cases hlt : os.length < n
      · skip
        obtain ⟨x, hx⟩ : ∃ x, ts[os.length]? = some x := ⟨_, List.getElem?_eq_getElem (by rw [← HN.out]; exact hlt)⟩;have HX := hid hx;obtain ⟨g, og, rfl, hg, hin⟩ := (H.out.below HB.out).at hx;obtain ⟨hxt, hxu⟩ := HM.out.at hx;obtain ⟨kk, a, b, m, t, u, p⟩ := x;dsimp only at hxt hxu;have HI_x : Hid (InV wr g (og + os.length * 7) (ndC kk a b m t u p)) := hin;have HM_x := hid (xjx kk a b m t u p);have HU_x : Hid (xq7 Tryz.prog 51 (ndC kk a b m t u p).size ∧ zN.size = (ndC kk a b m t u p).size ∧ ∀ v ∈ ndC kk a b m t u p, v.oneCell' = true) := xz0 ⟨kk, a, b, m, t, u, p⟩ zNd;have hrx := xqd wr 51 (ndC kk a b m t u p);have bn := xqc wr (.cells (ndC kk a b m t u p) 51);have HSs := hid (HS.out.below bn);have HBs := hid (xqa HB.out bn);have Hqw := hid HS.out.lt;clear hx hin bn HS HB hg;go_wp2_with (first | (refine xqf (by rfl) _ _ (by rfl) _ _ (by rfl) _ (by assumption) (by assumption) ?_) | (refine xqg (by rfl) _ _ _ (by rfl) _ _ _ (by rfl) (by rfl) (by assumption) ?_));generalize wr.alloc (.cells (ndC kk a b m t u p) 51) = wS at *;obtain ⟨q5, hq5⟩ : ∃ g, g = wr.heap.size := ⟨_, rfl⟩;rw [← hq5] at hrx ⊢;clear hq5 HI_x HU_x Hqw;cases hE : xwj os ⟨kk, a, b, m, t, u, p⟩ with
        | none =>
         have HE := hid hE;clear hE;have HV0 : Hid (v = false) := by
          show _ = _;rw [← HV.out];exact goodT_no (yvp HX.out HBe.out (by unfold xz6; rw [HE.out]; split <;> rfl))
         refine xj2 6 4 6 [27, 28, 29, 30, 31, 26] ?aF6 (fun wx => Below wS.heap.size wS wx) (fun k vv wx => match k with
          | 0 => vv = .agg (ndC kk a b m t u p)
          | 1 => vv = .slice (some ⟨q, 0, none⟩) n n
          | 2 => vv = .int .i64 (os.length : Int)
          | 3 => vv = .slice (some ⟨q, 0, none⟩) os.length n
          | 4 => vv = .tuple #[.int .i64 0, .bool false]
          | _ => vv = .tuple #[.int .i64 0, .bool false])
          (fun k => false) (by kernel_rfl) ?haF6 rfl (by kernel_rfl) (by kernel_rfl) (fun _ _ _ _ _ h => h) ?hSb6 ?hPb6 ?hS6 ?hop6 ?hfin6
         case haF6 =>
          intro vals;simp only [xqx, List.getElem?_cons_zero, List.getElem?_cons_succ, Act.put, List.setIfInBounds_toArray, List.set_cons_zero, List.set_cons_succ];exact rfl
         case hSb6 => exact fun wx w2 hb hS => xqa hS hb
         case hPb6 =>
          intro k v wa wb hb h
          match k, h with
          | 0, h => exact h
          | 1, h => exact h
          | 2, h => exact h
          | 3, h => exact h
          | 4, h => exact h
          | _ + 5, h => exact h
         case hS6 => exact (Below.refl _ _).drew
         case hop6 =>
          refine .cons (k := 0) (.plain rfl ?_) (.cons (k := 1) (.plain rfl ?_) (.cons (k := 2) (.plain rfl ?_) (.cons (k := 3) (.plain rfl ?_) (.cons (k := 4) (.plain rfl ?_) (.cons (k := 5) (.plain rfl ?_) (.nil))))))
          all_goals intro vals wr hS hd KC hK
          all_goals (show Oper.wp _ _ _ _ _ _; dsimp only)
          · refine xq1 51 _ rfl _ _ rfl (ndC kk a b m t u p) (hid (hrx.below hS).inV) (hid HM_x.out) ?_;refine hK _ _ rfl (Below.refl _ _) (by first | rfl | simp) (fun h => by cases h)
          · go_simp;refine hK _ _ rfl (Below.refl _ _) (by first | rfl | simp) (fun h => by cases h)
          · go_simp;refine hK _ _ rfl (Below.refl _ _) (by first | rfl | simp) (fun h => by cases h)
          · have d1 : vals 1 = _ := hd 1 (by decide +kernel);have d2 : vals 2 = _ := hd 2 (by decide +kernel);rw [d1, d2];go_simp;refine hK _ _ rfl (Below.refl _ _) (by first | rfl | simp) (fun h => by cases h)
          · have d0 : vals 0 = _ := hd 0 (by decide +kernel);have d3 : vals 3 = _ := hd 3 (by decide +kernel);rw [d0, d3];go_simp;go_at_call 94
            with_reducible refine (tStart_no HLow.out hl6 (HSs.out.below hS) HE.out).mono ?_
            rintro e w2 ⟨rfl, bn_r⟩;refine hK _ _ rfl bn_r rfl (fun h => by cases h)
          · have d4 : vals 4 = _ := hd 4 (by decide +kernel);rw [d4];go_simp;refine hK _ _ rfl (Below.refl _ _) (by first | rfl | simp) (fun h => by cases h)
         case hfin6 =>
          intro vals wr hS hP hne;have ez_5 : vals 5 = _ := hP 5 (by decide)
          try dsimp only
          rw [ez_5];refine wpAny_take (i := 6) rfl (by kernel_rfl) (by kernel_rfl) (by kernel_rfl) (fun _ _ _ h => h) (.inl ⟨rfl, fun _ => rfl⟩) ?_;simp only [Act.put, List.setIfInBounds_toArray];refine wpAny_take (i := 8) rfl (by kernel_rfl) (by kernel_rfl) (by kernel_rfl) (fun _ _ _ h => h) (.inl ⟨rfl, fun _ => rfl⟩) ?_;simp only [Act.put];refine wpAny_take (i := 7) rfl (by kernel_rfl) (by kernel_rfl) (by kernel_rfl) (fun _ _ _ h => h) (.inl ⟨rfl, fun _ => rfl⟩) ?_;simp only [Act.put];refine wpAny_take (i := 9) rfl (by kernel_rfl) (by kernel_rfl) (by kernel_rfl) (fun _ _ _ h => h) (.inl ⟨rfl, fun _ => rfl⟩) ?_;simp only [Act.put];refine wpAny_done (by kernel_rfl) ?_ _;have HF := hid (xqa HBs.out hS);clear hS hP hne;go_wp2
          go_ret
          exact ⟨by rw [HV0.out]; rfl, HF.out⟩
        | some s =>
         have HE := hid hE;clear hE;cases hG : xjw ⟨kk, a, b, m, t, u, p⟩
         · skip
           have HG := hid hG;clear hG
           refine xj2 6 4 6 [27, 28, 29, 30, 31, 26] ?aF7 (fun wx => Below wS.heap.size wS wx) (fun k vv wx => match k with
            | 0 => vv = .agg (ndC kk a b m t u p)
            | 1 => vv = .slice (some ⟨q, 0, none⟩) n n
            | 2 => vv = .int .i64 (os.length : Int)
            | 3 => vv = .slice (some ⟨q, 0, none⟩) os.length n
            | 4 => vv = .tuple #[.int .i64 (s : Int), .bool true]
            | _ => vv = .tuple #[.int .i64 (s : Int), .bool true])
            (fun k => false) (by kernel_rfl) ?haF7 rfl (by kernel_rfl) (by kernel_rfl) (fun _ _ _ _ _ h => h) ?hSb7 ?hPb7 ?hS7 ?hop7 ?hfin7
           case haF7 =>
            intro vals;simp only [xqx, List.getElem?_cons_zero, List.getElem?_cons_succ, Act.put, List.setIfInBounds_toArray, List.set_cons_zero, List.set_cons_succ];exact rfl
           case hSb7 => exact fun wx w2 hb hS => xqa hS hb
           case hPb7 =>
            intro k v wa wb hb h
            match k, h with
            | 0, h => exact h
            | 1, h => exact h
            | 2, h => exact h
            | 3, h => exact h
            | 4, h => exact h
            | _ + 5, h => exact h
           case hS7 => exact (Below.refl _ _).drew
           case hop7 =>
            refine .cons (k := 0) (.plain rfl ?_) (.cons (k := 1) (.plain rfl ?_) (.cons (k := 2) (.plain rfl ?_) (.cons (k := 3) (.plain rfl ?_) (.cons (k := 4) (.plain rfl ?_) (.cons (k := 5) (.plain rfl ?_) (.nil))))))
            all_goals intro vals wr hS hd KC hK
            all_goals (show Oper.wp _ _ _ _ _ _; dsimp only)
            · refine xq1 51 _ rfl _ _ rfl (ndC kk a b m t u p) (hid (hrx.below hS).inV) (hid HM_x.out) ?_;refine hK _ _ rfl (Below.refl _ _) (by first | rfl | simp) (fun h => by cases h)
            · go_simp;refine hK _ _ rfl (Below.refl _ _) (by first | rfl | simp) (fun h => by cases h)
            · go_simp;refine hK _ _ rfl (Below.refl _ _) (by first | rfl | simp) (fun h => by cases h)
            · have d1 : vals 1 = _ := hd 1 (by decide +kernel);have d2 : vals 2 = _ := hd 2 (by decide +kernel);rw [d1, d2];go_simp;refine hK _ _ rfl (Below.refl _ _) (by first | rfl | simp) (fun h => by cases h)
            · have d0 : vals 0 = _ := hd 0 (by decide +kernel);have d3 : vals 3 = _ := hd 3 (by decide +kernel);rw [d0, d3];go_simp;go_at_call 94
              with_reducible refine (tStart_yes HLow.out hl6 (HSs.out.below hS) HE.out).mono ?_
              rintro e w2 ⟨rfl, bn_r⟩;refine hK _ _ rfl bn_r rfl (fun h => by cases h)
            · have d4 : vals 4 = _ := hd 4 (by decide +kernel);rw [d4];go_simp;refine hK _ _ rfl (Below.refl _ _) (by first | rfl | simp) (fun h => by cases h)
           case hfin7 =>
            intro vals wr hS hP hne;have ez_5 : vals 5 = _ := hP 5 (by decide)
            try dsimp only
            rw [ez_5];refine wpAny_take (i := 6) rfl (by kernel_rfl) (by kernel_rfl) (by kernel_rfl) (fun _ _ _ h => h) (.inl ⟨rfl, fun _ => rfl⟩) ?_;simp only [Act.put, List.setIfInBounds_toArray];refine wpAny_take (i := 8) rfl (by kernel_rfl) (by kernel_rfl) (by kernel_rfl) (fun _ _ _ h => h) (.inl ⟨rfl, fun _ => rfl⟩) ?_;simp only [Act.put];refine wpAny_take (i := 7) rfl (by kernel_rfl) (by kernel_rfl) (by kernel_rfl) (fun _ _ _ h => h) (.inl ⟨rfl, fun _ => rfl⟩) ?_;simp only [Act.put];refine wpAny_take (i := 9) rfl (by kernel_rfl) (by kernel_rfl) (by kernel_rfl) (fun _ _ _ h => h) (.inl ⟨rfl, fun _ => rfl⟩) ?_;simp only [Act.put];refine wpAny_done (by kernel_rfl) ?_ _;have hr2 := hrx.below hS;have HI_y := hid hr2.inV;have HS2 := hid (HSs.out.below hS);have HF := hid (xqa HBs.out hS);clear hS hP hne HSs HBs hrx;generalize wr = w2 at *;go_wp2_with (refine xqf (by rfl) _ _ (by rfl) _ _ (by rfl) _ (by assumption) (by assumption) ?_);refine (tFits_c kk a b m t u p hxt hxu _ (HT.out.below HF.out) false HG.out).mono ?_;rintro e w3 ⟨rfl, bn⟩;have HF2 := hid (xqa HF.out bn);clear bn;have HV0 : Hid (v = false) := by
             show _ = _;rw [← HV.out];exact goodT_no (yvp HX.out HBe.out (by unfold xz6; rw [HG.out]; rfl))
            go_wp2
            go_ret
            exact ⟨by rw [HV0.out]; rfl, HF2.out⟩
         · skip
           have HG := hid hG;clear hG
           refine xj2 6 4 6 [27, 28, 29, 30, 31, 26] ?aF8 (fun wx => Below wS.heap.size wS wx) (fun k vv wx => match k with
            | 0 => vv = .agg (ndC kk a b m t u p)
            | 1 => vv = .slice (some ⟨q, 0, none⟩) n n
            | 2 => vv = .int .i64 (os.length : Int)
            | 3 => vv = .slice (some ⟨q, 0, none⟩) os.length n
            | 4 => vv = .tuple #[.int .i64 (s : Int), .bool true]
            | _ => vv = .tuple #[.int .i64 (s : Int), .bool true])
            (fun k => false) (by kernel_rfl) ?haF8 rfl (by kernel_rfl) (by kernel_rfl) (fun _ _ _ _ _ h => h) ?hSb8 ?hPb8 ?hS8 ?hop8 ?hfin8
           case haF8 =>
            intro vals;simp only [xqx, List.getElem?_cons_zero, List.getElem?_cons_succ, Act.put, List.setIfInBounds_toArray, List.set_cons_zero, List.set_cons_succ];exact rfl
           case hSb8 => exact fun wx w2 hb hS => xqa hS hb
           case hPb8 =>
            intro k v wa wb hb h
            match k, h with
            | 0, h => exact h
            | 1, h => exact h
            | 2, h => exact h
            | 3, h => exact h
            | 4, h => exact h
            | _ + 5, h => exact h
           case hS8 => exact (Below.refl _ _).drew
           case hop8 =>
            refine .cons (k := 0) (.plain rfl ?_) (.cons (k := 1) (.plain rfl ?_) (.cons (k := 2) (.plain rfl ?_) (.cons (k := 3) (.plain rfl ?_) (.cons (k := 4) (.plain rfl ?_) (.cons (k := 5) (.plain rfl ?_) (.nil))))))
            all_goals intro vals wr hS hd KC hK
            all_goals (show Oper.wp _ _ _ _ _ _; dsimp only)
            · refine xq1 51 _ rfl _ _ rfl (ndC kk a b m t u p) (hid (hrx.below hS).inV) (hid HM_x.out) ?_;refine hK _ _ rfl (Below.refl _ _) (by first | rfl | simp) (fun h => by cases h)
            · go_simp;refine hK _ _ rfl (Below.refl _ _) (by first | rfl | simp) (fun h => by cases h)
            · go_simp;refine hK _ _ rfl (Below.refl _ _) (by first | rfl | simp) (fun h => by cases h)
            · have d1 : vals 1 = _ := hd 1 (by decide +kernel);have d2 : vals 2 = _ := hd 2 (by decide +kernel);rw [d1, d2];go_simp;refine hK _ _ rfl (Below.refl _ _) (by first | rfl | simp) (fun h => by cases h)
            · have d0 : vals 0 = _ := hd 0 (by decide +kernel);have d3 : vals 3 = _ := hd 3 (by decide +kernel);rw [d0, d3];go_simp;go_at_call 94
              with_reducible refine (tStart_yes HLow.out hl6 (HSs.out.below hS) HE.out).mono ?_
              rintro e w2 ⟨rfl, bn_r⟩;refine hK _ _ rfl bn_r rfl (fun h => by cases h)
            · have d4 : vals 4 = _ := hd 4 (by decide +kernel);rw [d4];go_simp;refine hK _ _ rfl (Below.refl _ _) (by first | rfl | simp) (fun h => by cases h)
           case hfin8 =>
            intro vals wr hS hP hne;have ez_5 : vals 5 = _ := hP 5 (by decide)
            try dsimp only
            rw [ez_5];refine wpAny_take (i := 6) rfl (by kernel_rfl) (by kernel_rfl) (by kernel_rfl) (fun _ _ _ h => h) (.inl ⟨rfl, fun _ => rfl⟩) ?_;simp only [Act.put, List.setIfInBounds_toArray];refine wpAny_take (i := 8) rfl (by kernel_rfl) (by kernel_rfl) (by kernel_rfl) (fun _ _ _ h => h) (.inl ⟨rfl, fun _ => rfl⟩) ?_;simp only [Act.put];refine wpAny_take (i := 7) rfl (by kernel_rfl) (by kernel_rfl) (by kernel_rfl) (fun _ _ _ h => h) (.inl ⟨rfl, fun _ => rfl⟩) ?_;simp only [Act.put];refine wpAny_take (i := 9) rfl (by kernel_rfl) (by kernel_rfl) (by kernel_rfl) (fun _ _ _ h => h) (.inl ⟨rfl, fun _ => rfl⟩) ?_;simp only [Act.put];refine wpAny_done (by kernel_rfl) ?_ _;have hr2 := hrx.below hS;have HI_y := hid hr2.inV;have HS2 := hid (HSs.out.below hS);have HF := hid (xqa HBs.out hS);clear hS hP hne HSs HBs hrx;generalize wr = w2 at *;go_wp2_with (refine xqf (by rfl) _ _ (by rfl) _ _ (by rfl) _ (by assumption) (by assumption) ?_);refine (tFits_c kk a b m t u p hxt hxu _ (HT.out.below HF.out) true HG.out).mono ?_;rintro e w3 ⟨rfl, bn⟩;have HF2 := hid (xqa HF.out bn);have HS3 := hid (HS2.out.below bn);obtain ⟨j, hj⟩ : ∃ j, n - os.length = j + 1 := ⟨n - os.length - 1, by omega⟩;rw [hj] at HS3;obtain ⟨z, c1, f1⟩ := HS3.out.room;have HS4 := hid (HS3.out.store s);have HB4 := hid (xqt HF2.out HQ.out os.length (.int .i64 (s : Int)));have HBn := hid (begT_next HX.out HBe.out (by unfold xz6; rw [HG.out]; exact HE.out));clear bn HS2 HF HF2
            go_wp2
            go_roundw
            case rel => exact ⟨os ++ [s], by rw [List.length_append]; first | rfl | (go_num), by rw [List.length_append]; exact hlt, by show _ = _; rw [List.length_append]; exact HBn.out, by show NuR _ _ _ _ _; rw [List.length_append, List.length_singleton, show n - (os.length + 1) = j by omega]; exact HS4.out, HB4⟩
            case measure => simp [intOf]; omega
      · skip
        obtain rfl : n = os.length := by omega
        have HBf : Hid (yzt ts = some os) := by have h := HBe.out; rw [HN.out, List.take_length] at h; exact h
        obtain ⟨j, hj⟩ : ∃ j, os.length = j + 1 := ⟨os.length - 1, by omega⟩;have cl := HS.out.cell (j := j) (by omega);have hv2 : v = decide (os.getD j 0 = 0) := by
         rw [← HV.out, yve HBf.out (by rw [← HN.out]; omega) (by rw [← HN.out]; omega), ← HN.out, hj, Nat.add_sub_cancel]
         congr 2
         rw [List.getD_eq_getElem?_getD, List.getD_eq_getElem?_getD, List.getElem?_eq_getElem (by omega)];rfl
        obtain ⟨z, hz⟩ : ∃ z, os.getD j 0 = z := ⟨_, rfl⟩;rw [hz] at cl hv2;have ez : ((z : Int) == 0) = v := by rw [hv2, Bool.eq_iff_iff, beq_iff_eq, decide_eq_true_eq]; omega
        clear hz hv2 HS HBe;have hw1 : (os.length : Int) - 1 = (j : Int) := by omega
        have hjl : (j : Int) < (os.length : Int) := by omega
        go_wp2
        go_ret
        exact ⟨rfl, HB.out⟩
set_option maxRecDepth 100000 in
theorem tMoved_c (kk a b n : Int) (t u : ByteArray) (p : Int) (d : Nat) (ht : t.size ≤ 1000000) (hu : u.size ≤ 1000000) (a0 : 0 ≤ a) (a1 : a ≤ 1000000) (b0 : 0 ≤ b) (b1 : b ≤ 1000000) (hd6 : d ≤ 1000000) (V : Array Value) (hV : ndV (xqj d ⟨kk, a, b, n, t, u, p⟩) = V) (w : World) :
 Calls Tryz.prog 194 #[.agg (ndC kk a b n t u p), .int .i64 (d : Int)] w fun e w' => e = .returned (.agg V) ∧ Below w.heap.size w w' := by
 have HV := hid hV;clear hV;have b1 := xqc w (.cells (ndC kk a b n t u p) 51);have b2 := xqc (w.alloc (.cells (ndC kk a b n t u p) 51)) (.cells zN 51);have h_rx := (xqd w 51 (ndC kk a b n t u p)).below b2;have h_rz := xqd (w.alloc (.cells (ndC kk a b n t u p) 51)) 51 zN;simp only [World.size_alloc] at h_rz;have bw := xqa b1 b2;clear b1 b2;go_enter Tryz.func194, Tryz.ntmps194;go_wp2_with fail
 generalize (w.alloc (.cells (ndC kk a b n t u p) 51)).alloc (.cells zN 51) = w1 at *;obtain ⟨q_z, ez⟩ : ∃ g, g = w.heap.size + 1 := ⟨_, rfl⟩;obtain ⟨q_x, ex⟩ : ∃ g, g = w.heap.size := ⟨_, rfl⟩;rw [← ez] at h_rz ⊢;rw [← ex] at h_rx ⊢;have hne : Hid (q_x ≠ q_z) := by show _ ≠ _; omega
 have hxx : Hid (w.heap.size ≤ q_x ∧ w.heap.size ≤ q_z) := by constructor <;> omega
 clear ez ex;have HZ := hid h_rz;have HX := hid h_rx;have HB := hid bw;clear h_rz h_rx bw
 refine xv1 10 [some 5, some 6, some 7, some 8, some 9, some 10, some 11, none, some 12, none] ?aF (fun wx wy => (RowA wx q_x 51 (ndC kk a b n t u p) → RowA wy q_x 51 (ndC kk a b n t u p)) ∧ (RowA wx q_z 51 zN → RowA wy q_z 51 zN) ∧ (Below w.heap.size w wx → Below w.heap.size w wy)) (fun wx => RowA wx q_x 51 (ndC kk a b n t u p) ∧ RowA wx q_z 51 zN ∧ Below w.heap.size w wx) (fun k vv wx => match k with
  | 0 => vv = .pointer (some ⟨q_x, 4, none⟩)
  | 1 => vv = .string t
  | 2 => vv = .string t
  | 3 => vv = .pointer (some ⟨q_x, 5, none⟩)
  | 4 => vv = .string u
  | 5 => vv = .string u
  | 6 => vv = .pointer (some ⟨q_x, 4, none⟩)
  | 7 => True
  | 8 => vv = .pointer (some ⟨q_x, 5, none⟩)
  | _ => True)
  (by kernel_rfl) ?haF rfl (by kernel_rfl) (fun _ _ _ _ _ h => h) ?hSb ?hPb ?hS ?hop ?hfin
 case haF =>
  intro vals;simp only [xqx, dAt, Act.put, List.setIfInBounds_toArray, List.set_cons_zero, List.set_cons_succ];exact rfl
 case hSb => exact fun wx wy h k => ⟨h.1 k.1, h.2.1 k.2.1, h.2.2 k.2.2⟩
 case hPb =>
  intro k v wa wb hb hS h
  match k, h with
  | 0, h => exact h
  | 1, h => exact h
  | 2, h => exact h
  | 3, h => exact h
  | 4, h => exact h
  | 5, h => exact h
  | 6, h => exact h
  | 7, h => exact h
  | 8, h => exact h
  | _ + 9, h => exact h
 case hS => exact ⟨HX.out, HZ.out, HB.out.drew⟩
 case hop =>
  refine .cons (k := 0) ?_ (.cons (k := 1) ?_ (.cons (k := 2) ?_ (.cons (k := 3) ?_ (.cons (k := 4) ?_ (.cons (k := 5) ?_ (.cons (k := 6) ?_ (.cons (k := 7) ?_ (.cons (k := 8) ?_ (.cons (k := 9) ?_ (.nil))))))))))
  all_goals intro vals wr hS hd KC hK
  all_goals (show Oper.wp _ _ _ _ _ _; dsimp only)
  · go_simp;refine hK _ _ rfl ⟨fun h => h, fun h => h, fun h => h⟩ (by first | rfl | simp)
  · have d0 : vals 0 = _ := hd 0 (by decide +kernel);rw [d0];have c0 := hS.1.cell (k := 4) (v := .string t) rfl;go_simp;refine hK _ _ rfl ⟨fun h => h, fun h => h, fun h => h⟩ (by first | rfl | simp)
  · have d1 : vals 1 = _ := hd 1 (by decide +kernel);rw [d1];go_simp;go_at_call 140
    with_reducible refine (yw0 t (by omega) _).mono ?_
    rintro e w2 ⟨rfl, bn⟩;exact hK _ _ rfl ⟨fun h => h.below bn, fun h => h.below bn, fun h => xqa h bn⟩ rfl
  · go_simp;refine hK _ _ rfl ⟨fun h => h, fun h => h, fun h => h⟩ (by first | rfl | simp)
  · have d3 : vals 3 = _ := hd 3 (by decide +kernel);rw [d3];have c0 := hS.1.cell (k := 5) (v := .string u) rfl;go_simp;refine hK _ _ rfl ⟨fun h => h, fun h => h, fun h => h⟩ (by first | rfl | simp)
  · have d4 : vals 4 = _ := hd 4 (by decide +kernel);rw [d4];go_simp;go_at_call 140
    with_reducible refine (yw0 u (by omega) _).mono ?_
    rintro e w2 ⟨rfl, bn⟩;exact hK _ _ rfl ⟨fun h => h.below bn, fun h => h.below bn, fun h => xqa h bn⟩ rfl
  · go_simp;refine hK _ _ rfl ⟨fun h => h, fun h => h, fun h => h⟩ (by first | rfl | simp)
  · have d2 : vals 2 = _ := hd 2 (by decide +kernel);have d6 : vals 6 = _ := hd 6 (by decide +kernel);rw [d2, d6];have c0 := hS.1.cell (k := 4) (v := .string t) rfl;have f0 := hS.1.free 4;go_simp;exact hK _ _ rfl ⟨fun h => h.set 4 (.string t), fun h => h.far hne.out _ _, fun h => xqt h hxx.out.1 _ _⟩ trivial
  · go_simp;refine hK _ _ rfl ⟨fun h => h, fun h => h, fun h => h⟩ (by first | rfl | simp)
  · have d5 : vals 5 = _ := hd 5 (by decide +kernel);have d8 : vals 8 = _ := hd 8 (by decide +kernel);rw [d5, d8];have c0 := hS.1.cell (k := 5) (v := .string u) rfl;have f0 := hS.1.free 5;go_simp;exact hK _ _ rfl ⟨fun h => h.set 5 (.string u), fun h => h.far hne.out _ _, fun h => xqt h hxx.out.1 _ _⟩ trivial
 case hfin =>
  intro vals wr hS hP;have h_rx := hS.1;have h_rz := hS.2.1;have HB2 := hid hS.2.2;clear HX HZ HB hP hS;refine wpAny_done (by kernel_rfl) ?_ _
  try dsimp only [Act.put]
  generalize wr = w2 at *;by_cases h3 : kk = 3
  · subst h3;have k0 := h_rx.cell (k := 0) (v := .int .i64 3) rfl;have k1 := h_rx.cell (k := 1) (v := .int .i64 a) rfl;have f1 := h_rx.free 1;have k2 := h_rx.cell (k := 2) (v := .int .i64 b) rfl;have f2 := h_rx.free 2;have HI_x : Hid (InV ((w2.setCell ⟨q_x, 1, none⟩ (.int .i64 (a + (d : Int)))).setCell ⟨q_x, 2, none⟩ (.int .i64 (b + (d : Int)))) q_x 0 (ndC 3 (a + (d : Int)) (b + (d : Int)) n t u p)) := RowA.inV (show RowA ((w2.setCell ⟨q_x, 1, none⟩ (.int .i64 (a + (d : Int)))).setCell ⟨q_x, 2, none⟩ (.int .i64 (b + (d : Int)))) q_x 51 (ndC 3 (a + (d : Int)) (b + (d : Int)) n t u p) from ((h_rx.set 1 (.int .i64 (a + (d : Int)))).set 2 (.int .i64 (b + (d : Int)))));have HM_x : Hid (xq7 Tryz.prog 51 (ndC 3 (a + (d : Int)) (b + (d : Int)) n t u p).size) := xjx _ _ _ _ _ _ _;have HZ : Hid (RowA ((w2.setCell ⟨q_x, 1, none⟩ (.int .i64 (a + (d : Int)))).setCell ⟨q_x, 2, none⟩ (.int .i64 (b + (d : Int)))) q_z 51 zN) := ((h_rz.far hne.out 1 (.int .i64 (a + (d : Int)))).far hne.out 2 (.int .i64 (b + (d : Int))));have HU : Hid (xq7 Tryz.prog 51 (ndC 3 (a + (d : Int)) (b + (d : Int)) n t u p).size ∧ zN.size = (ndC 3 (a + (d : Int)) (b + (d : Int)) n t u p).size ∧ ∀ v ∈ ndC 3 (a + (d : Int)) (b + (d : Int)) n t u p, v.oneCell' = true) := xz0 ⟨_, _, _, _, _, _, _⟩ zNd;have HR : Hid (RowA (((w2.setCell ⟨q_x, 1, none⟩ (.int .i64 (a + (d : Int)))).setCell ⟨q_x, 2, none⟩ (.int .i64 (b + (d : Int)))).setRow q_z (ndC 3 (a + (d : Int)) (b + (d : Int)) n t u p)) q_z 51 (ndC 3 (a + (d : Int)) (b + (d : Int)) n t u p)) := HZ.out.fill
    have HE : Hid (Below w.heap.size w (((w2.setCell ⟨q_x, 1, none⟩ (.int .i64 (a + (d : Int)))).setCell ⟨q_x, 2, none⟩ (.int .i64 (b + (d : Int)))).setRow q_z (ndC 3 (a + (d : Int)) (b + (d : Int)) n t u p))) := xqv (xqt (xqt HB2.out hxx.out.1 1 (.int .i64 (a + (d : Int)))) hxx.out.1 2 (.int .i64 (b + (d : Int)))) hxx.out.2 _;clear h_rx h_rz HB2;go_wp2_with (first | (refine xqf (by rfl) _ _ (by rfl) _ _ (by rfl) _ (by assumption) (by assumption) ?_) | (refine xqi (by rfl) _ _ _ (by rfl) _ (by rfl) _ (by rfl) _ _ HZ HU ?_));refine bodyPost_ret (results_cell_row rfl _ _ _ 51 (ndC 3 (a + (d : Int)) (b + (d : Int)) n t u p) (0, 0) _ rfl HR.out Tryz.underlying51 rfl yj1) rfl ?_;exact ⟨by rw [← HV.out]; rfl, HE.out⟩
  · have e3 : (kk == 3) = false := by rw [beq_eq_false_iff_ne]; exact h3
    by_cases h4 : kk = 4
    · subst h4;have k0 := h_rx.cell (k := 0) (v := .int .i64 4) rfl;have k1 := h_rx.cell (k := 1) (v := .int .i64 a) rfl;have f1 := h_rx.free 1;have k2 := h_rx.cell (k := 2) (v := .int .i64 b) rfl;have f2 := h_rx.free 2;have HI_x : Hid (InV ((w2.setCell ⟨q_x, 1, none⟩ (.int .i64 (a + (d : Int)))).setCell ⟨q_x, 2, none⟩ (.int .i64 (b + (d : Int)))) q_x 0 (ndC 4 (a + (d : Int)) (b + (d : Int)) n t u p)) := RowA.inV (show RowA ((w2.setCell ⟨q_x, 1, none⟩ (.int .i64 (a + (d : Int)))).setCell ⟨q_x, 2, none⟩ (.int .i64 (b + (d : Int)))) q_x 51 (ndC 4 (a + (d : Int)) (b + (d : Int)) n t u p) from ((h_rx.set 1 (.int .i64 (a + (d : Int)))).set 2 (.int .i64 (b + (d : Int)))));have HM_x : Hid (xq7 Tryz.prog 51 (ndC 4 (a + (d : Int)) (b + (d : Int)) n t u p).size) := xjx _ _ _ _ _ _ _;have HZ : Hid (RowA ((w2.setCell ⟨q_x, 1, none⟩ (.int .i64 (a + (d : Int)))).setCell ⟨q_x, 2, none⟩ (.int .i64 (b + (d : Int)))) q_z 51 zN) := ((h_rz.far hne.out 1 (.int .i64 (a + (d : Int)))).far hne.out 2 (.int .i64 (b + (d : Int))));have HU : Hid (xq7 Tryz.prog 51 (ndC 4 (a + (d : Int)) (b + (d : Int)) n t u p).size ∧ zN.size = (ndC 4 (a + (d : Int)) (b + (d : Int)) n t u p).size ∧ ∀ v ∈ ndC 4 (a + (d : Int)) (b + (d : Int)) n t u p, v.oneCell' = true) := xz0 ⟨_, _, _, _, _, _, _⟩ zNd;have HR : Hid (RowA (((w2.setCell ⟨q_x, 1, none⟩ (.int .i64 (a + (d : Int)))).setCell ⟨q_x, 2, none⟩ (.int .i64 (b + (d : Int)))).setRow q_z (ndC 4 (a + (d : Int)) (b + (d : Int)) n t u p)) q_z 51 (ndC 4 (a + (d : Int)) (b + (d : Int)) n t u p)) := HZ.out.fill
      have HE : Hid (Below w.heap.size w (((w2.setCell ⟨q_x, 1, none⟩ (.int .i64 (a + (d : Int)))).setCell ⟨q_x, 2, none⟩ (.int .i64 (b + (d : Int)))).setRow q_z (ndC 4 (a + (d : Int)) (b + (d : Int)) n t u p))) := xqv (xqt (xqt HB2.out hxx.out.1 1 (.int .i64 (a + (d : Int)))) hxx.out.1 2 (.int .i64 (b + (d : Int)))) hxx.out.2 _;clear h_rx h_rz HB2;go_wp2_with (first | (refine xqf (by rfl) _ _ (by rfl) _ _ (by rfl) _ (by assumption) (by assumption) ?_) | (refine xqi (by rfl) _ _ _ (by rfl) _ (by rfl) _ (by rfl) _ _ HZ HU ?_));refine bodyPost_ret (results_cell_row rfl _ _ _ 51 (ndC 4 (a + (d : Int)) (b + (d : Int)) n t u p) (0, 0) _ rfl HR.out Tryz.underlying51 rfl yj1) rfl ?_;exact ⟨by rw [← HV.out]; rfl, HE.out⟩
    · have e4 : (kk == 4) = false := by rw [beq_eq_false_iff_ne]; exact h4
      by_cases h5 : kk = 5
      · subst h5;have k0 := h_rx.cell (k := 0) (v := .int .i64 5) rfl;have k1 := h_rx.cell (k := 1) (v := .int .i64 a) rfl;have f1 := h_rx.free 1;have k2 := h_rx.cell (k := 2) (v := .int .i64 b) rfl;have f2 := h_rx.free 2;have HI_x : Hid (InV ((w2.setCell ⟨q_x, 1, none⟩ (.int .i64 (a + (d : Int)))).setCell ⟨q_x, 2, none⟩ (.int .i64 (b + (d : Int)))) q_x 0 (ndC 5 (a + (d : Int)) (b + (d : Int)) n t u p)) := RowA.inV (show RowA ((w2.setCell ⟨q_x, 1, none⟩ (.int .i64 (a + (d : Int)))).setCell ⟨q_x, 2, none⟩ (.int .i64 (b + (d : Int)))) q_x 51 (ndC 5 (a + (d : Int)) (b + (d : Int)) n t u p) from ((h_rx.set 1 (.int .i64 (a + (d : Int)))).set 2 (.int .i64 (b + (d : Int)))));have HM_x : Hid (xq7 Tryz.prog 51 (ndC 5 (a + (d : Int)) (b + (d : Int)) n t u p).size) := xjx _ _ _ _ _ _ _;have HZ : Hid (RowA ((w2.setCell ⟨q_x, 1, none⟩ (.int .i64 (a + (d : Int)))).setCell ⟨q_x, 2, none⟩ (.int .i64 (b + (d : Int)))) q_z 51 zN) := ((h_rz.far hne.out 1 (.int .i64 (a + (d : Int)))).far hne.out 2 (.int .i64 (b + (d : Int))));have HU : Hid (xq7 Tryz.prog 51 (ndC 5 (a + (d : Int)) (b + (d : Int)) n t u p).size ∧ zN.size = (ndC 5 (a + (d : Int)) (b + (d : Int)) n t u p).size ∧ ∀ v ∈ ndC 5 (a + (d : Int)) (b + (d : Int)) n t u p, v.oneCell' = true) := xz0 ⟨_, _, _, _, _, _, _⟩ zNd;have HR : Hid (RowA (((w2.setCell ⟨q_x, 1, none⟩ (.int .i64 (a + (d : Int)))).setCell ⟨q_x, 2, none⟩ (.int .i64 (b + (d : Int)))).setRow q_z (ndC 5 (a + (d : Int)) (b + (d : Int)) n t u p)) q_z 51 (ndC 5 (a + (d : Int)) (b + (d : Int)) n t u p)) := HZ.out.fill
        have HE : Hid (Below w.heap.size w (((w2.setCell ⟨q_x, 1, none⟩ (.int .i64 (a + (d : Int)))).setCell ⟨q_x, 2, none⟩ (.int .i64 (b + (d : Int)))).setRow q_z (ndC 5 (a + (d : Int)) (b + (d : Int)) n t u p))) := xqv (xqt (xqt HB2.out hxx.out.1 1 (.int .i64 (a + (d : Int)))) hxx.out.1 2 (.int .i64 (b + (d : Int)))) hxx.out.2 _;clear h_rx h_rz HB2;go_wp2_with (first | (refine xqf (by rfl) _ _ (by rfl) _ _ (by rfl) _ (by assumption) (by assumption) ?_) | (refine xqi (by rfl) _ _ _ (by rfl) _ (by rfl) _ (by rfl) _ _ HZ HU ?_));refine bodyPost_ret (results_cell_row rfl _ _ _ 51 (ndC 5 (a + (d : Int)) (b + (d : Int)) n t u p) (0, 0) _ rfl HR.out Tryz.underlying51 rfl yj1) rfl ?_;exact ⟨by rw [← HV.out]; rfl, HE.out⟩
      · have e5 : (kk == 5) = false := by rw [beq_eq_false_iff_ne]; exact h5
        by_cases h6 : kk = 6
        · subst h6;have k0 := h_rx.cell (k := 0) (v := .int .i64 6) rfl;have k1 := h_rx.cell (k := 1) (v := .int .i64 a) rfl;have f1 := h_rx.free 1;have k2 := h_rx.cell (k := 2) (v := .int .i64 b) rfl;have f2 := h_rx.free 2;have HI_x : Hid (InV ((w2.setCell ⟨q_x, 1, none⟩ (.int .i64 (a + (d : Int)))).setCell ⟨q_x, 2, none⟩ (.int .i64 (b + (d : Int)))) q_x 0 (ndC 6 (a + (d : Int)) (b + (d : Int)) n t u p)) := RowA.inV (show RowA ((w2.setCell ⟨q_x, 1, none⟩ (.int .i64 (a + (d : Int)))).setCell ⟨q_x, 2, none⟩ (.int .i64 (b + (d : Int)))) q_x 51 (ndC 6 (a + (d : Int)) (b + (d : Int)) n t u p) from ((h_rx.set 1 (.int .i64 (a + (d : Int)))).set 2 (.int .i64 (b + (d : Int)))));have HM_x : Hid (xq7 Tryz.prog 51 (ndC 6 (a + (d : Int)) (b + (d : Int)) n t u p).size) := xjx _ _ _ _ _ _ _;have HZ : Hid (RowA ((w2.setCell ⟨q_x, 1, none⟩ (.int .i64 (a + (d : Int)))).setCell ⟨q_x, 2, none⟩ (.int .i64 (b + (d : Int)))) q_z 51 zN) := ((h_rz.far hne.out 1 (.int .i64 (a + (d : Int)))).far hne.out 2 (.int .i64 (b + (d : Int))));have HU : Hid (xq7 Tryz.prog 51 (ndC 6 (a + (d : Int)) (b + (d : Int)) n t u p).size ∧ zN.size = (ndC 6 (a + (d : Int)) (b + (d : Int)) n t u p).size ∧ ∀ v ∈ ndC 6 (a + (d : Int)) (b + (d : Int)) n t u p, v.oneCell' = true) := xz0 ⟨_, _, _, _, _, _, _⟩ zNd;have HR : Hid (RowA (((w2.setCell ⟨q_x, 1, none⟩ (.int .i64 (a + (d : Int)))).setCell ⟨q_x, 2, none⟩ (.int .i64 (b + (d : Int)))).setRow q_z (ndC 6 (a + (d : Int)) (b + (d : Int)) n t u p)) q_z 51 (ndC 6 (a + (d : Int)) (b + (d : Int)) n t u p)) := HZ.out.fill
          have HE : Hid (Below w.heap.size w (((w2.setCell ⟨q_x, 1, none⟩ (.int .i64 (a + (d : Int)))).setCell ⟨q_x, 2, none⟩ (.int .i64 (b + (d : Int)))).setRow q_z (ndC 6 (a + (d : Int)) (b + (d : Int)) n t u p))) := xqv (xqt (xqt HB2.out hxx.out.1 1 (.int .i64 (a + (d : Int)))) hxx.out.1 2 (.int .i64 (b + (d : Int)))) hxx.out.2 _;clear h_rx h_rz HB2;go_wp2_with (first | (refine xqf (by rfl) _ _ (by rfl) _ _ (by rfl) _ (by assumption) (by assumption) ?_) | (refine xqi (by rfl) _ _ _ (by rfl) _ (by rfl) _ (by rfl) _ _ HZ HU ?_));refine bodyPost_ret (results_cell_row rfl _ _ _ 51 (ndC 6 (a + (d : Int)) (b + (d : Int)) n t u p) (0, 0) _ rfl HR.out Tryz.underlying51 rfl yj1) rfl ?_;exact ⟨by rw [← HV.out]; rfl, HE.out⟩
        · have e6 : (kk == 6) = false := by rw [beq_eq_false_iff_ne]; exact h6
          by_cases h7 : kk = 7
          · subst h7;have k0 := h_rx.cell (k := 0) (v := .int .i64 7) rfl;have k1 := h_rx.cell (k := 1) (v := .int .i64 a) rfl;have f1 := h_rx.free 1;have HI_x : Hid (InV (w2.setCell ⟨q_x, 1, none⟩ (.int .i64 (a + (d : Int)))) q_x 0 (ndC 7 (a + (d : Int)) b n t u p)) := RowA.inV (show RowA (w2.setCell ⟨q_x, 1, none⟩ (.int .i64 (a + (d : Int)))) q_x 51 (ndC 7 (a + (d : Int)) b n t u p) from (h_rx.set 1 (.int .i64 (a + (d : Int)))));have HM_x : Hid (xq7 Tryz.prog 51 (ndC 7 (a + (d : Int)) b n t u p).size) := xjx _ _ _ _ _ _ _;have HZ : Hid (RowA (w2.setCell ⟨q_x, 1, none⟩ (.int .i64 (a + (d : Int)))) q_z 51 zN) := (h_rz.far hne.out 1 (.int .i64 (a + (d : Int))));have HU : Hid (xq7 Tryz.prog 51 (ndC 7 (a + (d : Int)) b n t u p).size ∧ zN.size = (ndC 7 (a + (d : Int)) b n t u p).size ∧ ∀ v ∈ ndC 7 (a + (d : Int)) b n t u p, v.oneCell' = true) := xz0 ⟨_, _, _, _, _, _, _⟩ zNd;have HR : Hid (RowA ((w2.setCell ⟨q_x, 1, none⟩ (.int .i64 (a + (d : Int)))).setRow q_z (ndC 7 (a + (d : Int)) b n t u p)) q_z 51 (ndC 7 (a + (d : Int)) b n t u p)) := HZ.out.fill;have HE : Hid (Below w.heap.size w ((w2.setCell ⟨q_x, 1, none⟩ (.int .i64 (a + (d : Int)))).setRow q_z (ndC 7 (a + (d : Int)) b n t u p))) := xqv (xqt HB2.out hxx.out.1 1 (.int .i64 (a + (d : Int)))) hxx.out.2 _;clear h_rx h_rz HB2;go_wp2_with (first | (refine xqf (by rfl) _ _ (by rfl) _ _ (by rfl) _ (by assumption) (by assumption) ?_) | (refine xqi (by rfl) _ _ _ (by rfl) _ (by rfl) _ (by rfl) _ _ HZ HU ?_))
            refine bodyPost_ret (results_cell_row rfl _ _ _ 51 (ndC 7 (a + (d : Int)) b n t u p) (0, 0) _ rfl HR.out Tryz.underlying51 rfl yj1) rfl ?_;exact ⟨by rw [← HV.out]; rfl, HE.out⟩
          · have e7 : (kk == 7) = false := by rw [beq_eq_false_iff_ne]; exact h7
            by_cases h8 : kk = 8
            · subst h8;have k0 := h_rx.cell (k := 0) (v := .int .i64 8) rfl;have k1 := h_rx.cell (k := 1) (v := .int .i64 a) rfl;have f1 := h_rx.free 1;have HI_x : Hid (InV (w2.setCell ⟨q_x, 1, none⟩ (.int .i64 (a + (d : Int)))) q_x 0 (ndC 8 (a + (d : Int)) b n t u p)) := RowA.inV (show RowA (w2.setCell ⟨q_x, 1, none⟩ (.int .i64 (a + (d : Int)))) q_x 51 (ndC 8 (a + (d : Int)) b n t u p) from (h_rx.set 1 (.int .i64 (a + (d : Int)))));have HM_x : Hid (xq7 Tryz.prog 51 (ndC 8 (a + (d : Int)) b n t u p).size) := xjx _ _ _ _ _ _ _;have HZ : Hid (RowA (w2.setCell ⟨q_x, 1, none⟩ (.int .i64 (a + (d : Int)))) q_z 51 zN) := (h_rz.far hne.out 1 (.int .i64 (a + (d : Int))));have HU : Hid (xq7 Tryz.prog 51 (ndC 8 (a + (d : Int)) b n t u p).size ∧ zN.size = (ndC 8 (a + (d : Int)) b n t u p).size ∧ ∀ v ∈ ndC 8 (a + (d : Int)) b n t u p, v.oneCell' = true) := xz0 ⟨_, _, _, _, _, _, _⟩ zNd;have HR : Hid (RowA ((w2.setCell ⟨q_x, 1, none⟩ (.int .i64 (a + (d : Int)))).setRow q_z (ndC 8 (a + (d : Int)) b n t u p)) q_z 51 (ndC 8 (a + (d : Int)) b n t u p)) := HZ.out.fill;have HE : Hid (Below w.heap.size w ((w2.setCell ⟨q_x, 1, none⟩ (.int .i64 (a + (d : Int)))).setRow q_z (ndC 8 (a + (d : Int)) b n t u p))) := xqv (xqt HB2.out hxx.out.1 1 (.int .i64 (a + (d : Int)))) hxx.out.2 _;clear h_rx h_rz HB2;go_wp2_with (first | (refine xqf (by rfl) _ _ (by rfl) _ _ (by rfl) _ (by assumption) (by assumption) ?_) | (refine xqi (by rfl) _ _ _ (by rfl) _ (by rfl) _ (by rfl) _ _ HZ HU ?_))
              refine bodyPost_ret (results_cell_row rfl _ _ _ 51 (ndC 8 (a + (d : Int)) b n t u p) (0, 0) _ rfl HR.out Tryz.underlying51 rfl yj1) rfl ?_;exact ⟨by rw [← HV.out]; rfl, HE.out⟩
            · have e8 : (kk == 8) = false := by rw [beq_eq_false_iff_ne]; exact h8
              have k0 := h_rx.cell (k := 0) (v := .int .i64 kk) rfl;have HI_x : Hid (InV w2 q_x 0 (ndC kk a b n t u p)) := RowA.inV (show RowA w2 q_x 51 (ndC kk a b n t u p) from h_rx);have HM_x : Hid (xq7 Tryz.prog 51 (ndC kk a b n t u p).size) := xjx _ _ _ _ _ _ _;have HZ : Hid (RowA w2 q_z 51 zN) := h_rz;have HU : Hid (xq7 Tryz.prog 51 (ndC kk a b n t u p).size ∧ zN.size = (ndC kk a b n t u p).size ∧ ∀ v ∈ ndC kk a b n t u p, v.oneCell' = true) := xz0 ⟨kk, a, b, n, t, u, p⟩ zNd;have HR : Hid (RowA (w2.setRow q_z (ndC kk a b n t u p)) q_z 51 (ndC kk a b n t u p)) := HZ.out.fill;have HE : Hid (Below w.heap.size w (w2.setRow q_z (ndC kk a b n t u p))) := xqv HB2.out hxx.out.2 _;have HVe : Hid (V = ndC kk a b n t u p) := by show _ = _; rw [← HV.out, xju (by rw [Bool.eq_false_iff]; exact two_no h3 h4 h5 h6) (by rw [Bool.eq_false_iff]; intro e; have h78 : kk = 7 ∨ kk = 8 := oneK_iff.1 e; omega)]; rfl
              clear h_rx h_rz HB2;go_wp2_with (first | (refine xqf (by rfl) _ _ (by rfl) _ _ (by rfl) _ (by assumption) (by assumption) ?_) | (refine xqi (by rfl) _ _ _ (by rfl) _ (by rfl) _ (by rfl) _ _ HZ HU ?_));refine bodyPost_ret (results_cell_row rfl _ _ _ 51 (ndC kk a b n t u p) (0, 0) _ rfl HR.out Tryz.underlying51 rfl yj1) rfl ?_;exact ⟨by rw [HVe.out], HE.out⟩
def layL (L : List Nd) (k : Nat) (ts : List Nd) : List Nd := L.take k ++ (ts ++ L.drop (k + ts.length))
theorem yzk : ∀ {ts : List Nd} {j : Nat} {v : Value}, (xql ts)[j]? = some v → ∃ (i r : Nat) (x : Nd), j = i * 7 + r ∧ ts[i]? = some x ∧ (ndV x)[r]? = some v
 | [], j, v, h => by simp [xql] at h
 | y :: ts, j, v, h => by
  have e : xql (y :: ts) = (ndV y).toList ++ xql ts := rfl;rw [e] at h;have hl : (ndV y).toList.length = 7 := rfl;rcases Nat.lt_or_ge j 7 with h1 | h1
  · rw [List.getElem?_append_left (by rw [hl]; exact h1)] at h;exact ⟨0, j, y, by omega, rfl, by simpa using h⟩
  · rw [List.getElem?_append_right (by rw [hl]; exact h1), hl] at h;obtain ⟨i, r, x, h2, h3, h4⟩ := yzk h;exact ⟨i + 1, r, x, by omega, by simpa using h3, h4⟩
theorem ndCells_take (ts : List Nd) (k : Nat) : (xql ts).take (k * 7) = xql (ts.take k) := by
 induction ts generalizing k with
 | nil => simp [xql]
 | cons y ts ih =>
  cases k with
  | zero => simp [xql]
  | succ k =>
   show ((ndV y).toList ++ xql ts).take ((k + 1) * 7) = (ndV y).toList ++ xql (ts.take k);rw [← ih, List.take_append, show (ndV y).toList.length = 7 from rfl, show (k + 1) * 7 - 7 = k * 7 by omega, List.take_of_length_le (by show 7 ≤ _; omega)]
theorem ndCells_drop (ts : List Nd) (k : Nat) : (xql ts).drop (k * 7) = xql (ts.drop k) := by
 induction ts generalizing k with
 | nil => simp [xql]
 | cons y ts ih =>
  cases k with
  | zero => simp [xql]
  | succ k =>
   show ((ndV y).toList ++ xql ts).drop ((k + 1) * 7) = xql (ts.drop k);rw [← ih, List.drop_append, show (ndV y).toList.length = 7 from rfl, show (k + 1) * 7 - 7 = k * 7 by omega, List.drop_of_length_le (by show 7 ≤ _; omega), List.nil_append]
theorem zqy (L ts : List Nd) (k : Nat) : (xql L).take (k * 7) ++ (xql ts ++ (xql L).drop (k * 7 + (xql ts).length)) = xql (layL L k ts) := by
 rw [xvd, ← Nat.add_mul, ndCells_take, ndCells_drop];unfold layL;rw [yzl, yzl]
theorem set_lay {L : List Nd} {i : Nat} (h : i < L.length) (y : Nd) : layL L i [y] = L.set i y := by
 unfold layL;rw [List.set_eq_take_append_cons_drop, if_pos h];rfl
def NdR (w : World) (g : Nat) (L : List Nd) : Prop := RowA w g 51 (xql L).toArray
theorem NdR.inV {w : World} {g : Nat} {L : List Nd} (h : NdR w g L) {i : Nat} {x : Nd} (hx : L[i]? = some x) : InV w g (i * 7) (ndV x) :=
 RowA.part h fun j v hv => by rw [List.getElem?_toArray]; exact yqd hx j v hv
theorem NdR.tree {w : World} {g : Nat} {L : List Nd} (h : NdR w g L) (hm : L.length ≤ maxLen) : TreR w (some ⟨g, 0, none⟩) L.length L.length L :=
 ⟨rfl, Nat.le_refl _, hm, fun _ => ⟨g, 0, rfl, RowA.lt h, fun i x hx => by rw [Nat.zero_add]; exact h.inV hx⟩⟩
theorem NdR.below {w w' : World} {g : Nat} {L : List Nd} (h : NdR w g L) (hb : Below w.heap.size w w') : NdR w' g L := RowA.below h hb
theorem NdR.setCells {w : World} {g : Nat} {L : List Nd} (h : NdR w g L) {i : Nat} (hi : i < L.length) (y : Nd) : NdR (w.setRow g ((xql L).take (i * 7) ++ ((ndV y).toList ++ (xql L).drop (i * 7 + (ndV y).toList.length))).toArray) g (L.set i y) := by
 have e := zqy L [y] i;rw [set_lay hi] at e;unfold NdR;rw [← e];have e2 : xql [y] = (ndV y).toList := by simp [xql]
 rw [e2];exact RowA.fill h
section
variable {ops : Array Oper} {rest : List Oper} {o : Oper} {a : Act} {w : World} {Q : Exit → Act → World → Prop}
set_option maxRecDepth 10000 in
/-- A store of one node into a row of nodes. -/
theorem wpList_storeNd (hg : Region.wanted o (yielded ops a.tmps) = true) (x y : Operand) (ho : o.op = .store 51 x y) (g off : Nat) (hx : a.eval x = .pointer (some ⟨g, off, none⟩)) (V : Array Value) (hy : a.eval y = .agg V) (z : Nd) (L : List Nd) (i : Nat) (hc : Hid (NdR w g L ∧ V = ndV z ∧ off = i * 7 ∧ i < L.length))
 (h : ∀ w', Hid (NdR w' g (L.set i z)) → Hid (∀ B w0, B ≤ g → Below B w0 w → Below B w0 w') → wpList Tryz.prog ops Q rest (a.put o.dst undef) w') : wpList Tryz.prog ops Q (o :: rest) a w :=
 BigFrame.wpList_want hg fun K hK => by
  obtain ⟨h1, rfl, rfl, hi⟩ := hc.out;have hl := xvd L;have hs := run_storeCells_at Tryz.prog g (i * 7) 51 (ndV z).toList 0 (xql L).toArray w h1 (by simp [hl, ndV]; omega) (fun v hv => zqw z v (by simpa using hv));have hr : (Instr.storeAt 51 (.pointer (some ⟨g, i * 7, none⟩)) (.agg (ndV z))).run Tryz.prog w = .ok () (w.setRow g ((xql L).take (i * 7) ++ ((ndV z).toList ++ (xql L).drop (i * 7 + (ndV z).toList.length))).toArray) := by
   have hi7 := yj1;cases hq : Tryz.prog.info? 51 with
   | none => rw [hq] at hi7; cases hi7
   | some i7 =>
    have hs7 : (ndV z).size = i7.size := by rw [hq] at hi7; injection hi7 with hi7; exact hi7.symm
    simp only [Nat.add_zero, List.append_assoc] at hs;simp [Instr.storeAt, Instr.sureAddr, storeVar, sizeOf, typeInfo, hq, Value.cells, hs7, hs]
  unfold Oper.wp execOp;simp only [ho, hx, hy, hr, Sem.run_bind, Sem.run_pure, Result.andThen_ok];exact hK _ _ (h _ (h1.setCells hi z) (fun B w0 hB hb => below_setRow hb hB _))
theorem wpList_copy_nd (hgd : o.guard = none) (d s : Operand) (ho : o.op = .call { callee := .builtin .copy, args := #[d, s], argTypes := #[33, 33] })
 (g off dLen dCap : Nat) (sp : Option Addr) (sLen sCap : Nat) (hd : a.eval d = .slice (some ⟨g, off, none⟩) dLen dCap) (hs : a.eval s = .slice sp sLen sCap)
 (L ts : List Nd) (k : Nat) (hown : Hid (NdR w g L)) (hy : Hid (TreR w sp sLen sCap ts)) (hlen : Hid (0 < sLen ∧ sLen ≤ dLen ∧ off = k * 7 ∧ k + sLen ≤ L.length))
 (h : ∀ w', Hid (NdR w' g (layL L k ts)) → Hid (∀ B w0, B ≤ g → Below B w0 w → Below B w0 w') → wpList Tryz.prog ops Q rest (a.put o.dst (goInt sLen)) w') : wpList Tryz.prog ops Q (o :: rest) a w := by
 obtain ⟨l0, l1, rfl, l2⟩ := hlen.out;obtain ⟨y1, y2, y3, y4⟩ := hy.out;obtain ⟨gs, os, rfl, hgs, hin⟩ := y4 l0;have hcl := xvd ts;have hLl := xvd L;refine wpList_plain hgd fun K hK => ?_
 have hsrc : ∀ j v, (xql ts)[j]? = some v → w.cell? ((⟨gs, os, none⟩ : Addr).add j) = some v := by
  intro j v hv;obtain ⟨i, r, x, rfl, hx, hr⟩ := yzk hv;rw [Addr.add_mid, ← Nat.add_assoc];exact hin i x hx r v hr
 have hl := run_loadCells_list (P := Tryz.prog) w ⟨gs, os, none⟩ (xql ts) hsrc;have hst := run_storeCells_at Tryz.prog g (k * 7) 51 (xql ts) 0 (xql L).toArray w hown.out (by simp [hLl, hcl]; omega) (zqx ts);simp only [Nat.add_zero, List.append_assoc] at hst;have hrun : (Builtin.copy_ #[33, 33] o.type #[.slice (some ⟨g, k * 7, none⟩) dLen dCap, .slice (some ⟨gs, os, none⟩) sLen sCap]).run Tryz.prog w = .ok (goInt sLen) (w.setRow g ((xql L).take (k * 7) ++ (xql ts ++ (xql L).drop (k * 7 + (xql ts).length))).toArray) := by
  have hi7 := yj1;cases hq : Tryz.prog.info? 51 with
  | none => rw [hq] at hi7; cases hi7
  | some i7 =>
   have hs7 : i7.size = 7 := by rw [hq] at hi7; injection hi7
   have hmin : Nat.min sLen dLen = sLen := Nat.min_eq_left l1;have hn7 : sLen * 7 = (xql ts).length := by rw [hcl, y1]
   simp [Builtin.copy_, run_underlying Tryz.underlying33, Builtin.lenOf, Builtin.firstCells, sizeOf, typeInfo, hq, hs7, hmin, hn7, hl, hst]
 unfold Oper.wp;simp [execOp, ho, resolve, invoke, builtin, hd, hs, hrun, Result.andThen];refine hK _ _ (h _ ?_ (fun B w0 hB hb => below_setRow hb hB _));show RowA _ _ _ _;rw [← zqy];exact RowA.fill hown.out
end
theorem made_nd (W : World) (n : Nat) (hn : n ≤ 1000000) : (Instr.makeSlice 33 (.int .i64 (n : Int)) (.int .i64 (n : Int))).run Tryz.prog W = .ok (.slice (some ⟨W.heap.size, 0, none⟩) n n) (W.alloc (.cells (xql (List.replicate n zNd)).toArray 51)) := by
 obtain ⟨i0, z, h1, h2, h3, h4, h5, h6, h7⟩ := yw5;have hz : z = .agg zN := by
  have : (Tryz.prog.info? 51).map (·.zero) = some (some (.agg zN)) := by kernel_rfl
  rw [h2] at this;simp [h3] at this;exact this
 have hb : (i0.bytes : Int) * (n : Int) ≤ 1000000000 := by
  have : i0.bytes * n ≤ 1000 * 1000000 := Nat.mul_le_mul h7 hn;have e : (i0.bytes : Int) * (n : Int) = ((i0.bytes * n : Nat) : Int) := by simp
  rw [e]; omega
 have h := run_make (P := Tryz.prog) W 33 51 i0 z h1 h2 h3 .i64 .i64 (n : Int) (n : Int) (by omega) (by omega) (by omega) (by omega);rw [h4, hz, Int.toNat_natCast] at h;have e : madeCells (Value.agg zN).cells (n * 7) = (xql (List.replicate n zNd)).toArray := by
  apply Array.toList_inj.1
  rw [List.toList_toArray];apply List.ext_getElem?
  intro j;have hl : (xql (List.replicate n zNd)).length = n * 7 := by rw [xvd, List.length_replicate]
  by_cases hj : j < n * 7
  · have hz7 : (ndV zNd)[j % 7]? = some ((ndV zNd)[j % 7]'(by show j % 7 < 7; omega)) := Array.getElem?_eq_getElem _;have h9 := yqd (ts := List.replicate n zNd) (i := j / 7) (x := zNd) (by rw [List.getElem?_replicate, if_pos (by omega)]) (j % 7) _ hz7;rw [show j / 7 * 7 + j % 7 = j by omega] at h9;rw [h9];show (madeCells zN (n * 7)).toList[j]? = _;have key : ∀ r (hr : r < 7), (zN.toList[r]?.getD default) = (ndV zNd)[r]'hr := by
     intro r hr
     match r, hr with
     | 0, _ => rfl
     | 1, _ => rfl
     | 2, _ => rfl
     | 3, _ => rfl
     | 4, _ => rfl
     | 5, _ => rfl
     | 6, _ => rfl
     | r + 7, h => omega
    unfold madeCells;simp [hj];exact key _ (by omega)
  · rw [List.getElem?_eq_none (by show (madeCells zN (n * 7)).toList.length ≤ j; rw [Array.length_toList, size_madeCells]; omega), List.getElem?_eq_none (by rw [hl]; omega)]
 rw [e] at h;exact h
def Fair (x : Nd) : Prop := x.t.size ≤ 1000000 ∧ x.u.size ≤ 1000000 ∧ 0 ≤ x.a ∧ x.a ≤ 1000000 ∧ 0 ≤ x.b ∧ x.b ≤ 1000000
def mixL (L : List Nd) (k d : Nat) (ts : List Nd) (i : Nat) : List Nd := layL L k ((ts.take i).map (xqj d) ++ ts.drop i)
theorem lay_step {L ts : List Nd} {d k i : Nat} {x : Nd} (hx : ts[i]? = some x) (hk : k + ts.length ≤ L.length) : (mixL L k d ts i).set (k + i) (xqj d x) = mixL L k d ts (i + 1) := by
 unfold mixL;have hi := (List.getElem?_eq_some_iff.1 hx).1;have hxe := (List.getElem?_eq_some_iff.1 hx).2;have h1 : (L.take k).length = k := by rw [List.length_take]; omega
 have h2 : ((ts.take i).map (xqj d)).length = i := by simp; omega
 have hl1 : ((ts.take i).map (xqj d) ++ ts.drop i).length = ts.length := by simp; omega
 have hl2 : ((ts.take (i + 1)).map (xqj d) ++ ts.drop (i + 1)).length = ts.length := by simp; omega
 unfold layL;rw [hl1, hl2, List.set_append_right (h := by rw [h1]; omega), h1, Nat.add_sub_cancel_left, List.append_assoc, List.set_append_right (h := by rw [h2]; exact Nat.le_refl _), h2, Nat.sub_self, List.drop_eq_getElem_cons hi, List.cons_append, List.set_cons_zero, List.take_add_one, hx]
 simp
theorem lay_at {L ts : List Nd} {d k i : Nat} {x : Nd} (hx : ts[i]? = some x) (hk : k + ts.length ≤ L.length) : (mixL L k d ts i)[k + i]? = some x := by
 unfold mixL;have hi := (List.getElem?_eq_some_iff.1 hx).1;have h1 : (L.take k).length = k := by rw [List.length_take]; omega
 have h2 : ((ts.take i).map (xqj d)).length = i := by simp; omega
 unfold layL;rw [List.getElem?_append_right (by rw [h1]; omega), h1, Nat.add_sub_cancel_left, List.append_assoc, List.getElem?_append_right (by rw [h2]; exact Nat.le_refl _), h2, Nat.sub_self, List.drop_eq_getElem_cons hi];rw [List.cons_append, List.getElem?_cons_zero, (List.getElem?_eq_some_iff.1 hx).2]
theorem len_mix {L ts : List Nd} {k d i : Nat} (h : k + ts.length ≤ L.length) (hi : i ≤ ts.length) : (mixL L k d ts i).length = L.length := by unfold mixL layL; simp; omega
theorem mix_start (L : List Nd) (k d : Nat) (ts : List Nd) : mixL L k d ts 0 = layL L k ts := by simp [mixL]
theorem mix_end (L : List Nd) (k d : Nat) (ts : List Nd) : mixL L k d ts ts.length = layL L k (ts.map (xqj d)) := by simp [mixL]
set_option maxRecDepth 100000 in
theorem tLay_c {w : World} {g k rl rc d : Nat} {L0 : List Nd} (hr : NdR w g L0) (hrl : rl ≤ rc) (hrc : rc ≤ 1000000) {A : Option Addr} {n c : Nat} {ts : List Nd} (h : TreR w A n c ts) (h0 : 0 < n) (hn6 : n ≤ rl) (hk : k + n ≤ L0.length) (hd6 : d ≤ 1000000) (hf : ∀ x ∈ ts, Fair x) {D : Int} (hD : D = (d : Int)) :
 Calls Tryz.prog 174 #[.slice (some ⟨g, k * 7, none⟩) rl rc, .slice A n c, .int .i64 D] w fun e w' => e = .returned (.tuple #[]) ∧ NdR w' g (layL L0 k (ts.map (xqj d))) ∧ Below g w w' := by
 subst hD;obtain ⟨hn, hc, hcm, _⟩ := id h;have HO := hid hr;have HY := hid h;have HL : Hid (0 < n ∧ n ≤ rl ∧ k * 7 = k * 7 ∧ k + n ≤ L0.length) := ⟨h0, hn6, rfl, hk⟩;have HN := hid hn;have HF := hid hf;have HK : Hid (k + ts.length ≤ L0.length) := by show _ ≤ _; rw [← hn]; exact hk
 clear h hr hn hf hk;go_enter Tryz.func174, Tryz.ntmps174;go_wp2_with (refine wpList_copy_nd rfl _ _ rfl g (k * 7) rl rc A n c rfl rfl L0 ts k HO HY HL ?_);intro w1 HO1 HB1;have HB2 := hid (HB1.out g w (Nat.le_refl _) (Below.refl _ _));have HO2 : Hid (NdR w1 g (mixL L0 k d ts 0)) := by show NdR _ _ _; rw [mix_start]; exact HO1.out
 clear HB1 HO1 HO HY;go_wp2
 go_loopw [16] (fun i wr => ∃ i0 : Nat, i = .int .i64 (i0 : Int) ∧ i0 ≤ n ∧ Hid (NdR wr g (mixL L0 k d ts i0)) ∧ Hid (Below g w wr)) (fun i _ => n - (intOf i).toNat)
 case atStart => exact ⟨0, rfl, Nat.zero_le _, HO2, HB2⟩
 case round =>
  obtain ⟨i, rfl, hi, HO3, HB3⟩ := hrel;by_cases hlt : i < n
  · skip
    obtain ⟨x, hx⟩ : ∃ x, ts[i]? = some x := ⟨_, List.getElem?_eq_getElem (by rw [← HN.out]; exact hlt)⟩;have HX := hid hx;have hin := HO3.out.inV (lay_at (d := d) hx HK.out);obtain ⟨ft, fu, fa0, fa1, fb0, fb1⟩ := HF.out x (List.mem_of_getElem? hx);obtain ⟨k1, a1, b1, m1, t1, u1, p1⟩ := x;dsimp only at ft fu fa0 fa1 fb0 fb1;obtain ⟨V, hV⟩ : ∃ V, ndV (xqj d ⟨k1, a1, b1, m1, t1, u1, p1⟩) = V := ⟨_, rfl⟩;have HV := hid hV;have HI_x : Hid (InV wr g (k * 7 + i * 7) (ndC k1 a1 b1 m1 t1 u1 p1)) := by rw [← Nat.add_mul]; exact hin
    have HM_x := hid (xjx k1 a1 b1 m1 t1 u1 p1);have HU_x : Hid (xq7 Tryz.prog 51 (ndC k1 a1 b1 m1 t1 u1 p1).size ∧ zN.size = (ndC k1 a1 b1 m1 t1 u1 p1).size ∧ ∀ v ∈ ndC k1 a1 b1 m1 t1 u1 p1, v.oneCell' = true) := xz0 ⟨k1, a1, b1, m1, t1, u1, p1⟩ zNd;have bn := xqc wr (.cells (ndC k1 a1 b1 m1 t1 u1 p1) 51);have hgl := RowA.lt HO3.out;have HO4 := hid (HO3.out.below bn);have HB4 := hid (HB3.out.trans (bn.mono (Nat.le_of_lt hgl)));have HI_y : Hid (InV (wr.alloc (.cells (ndC k1 a1 b1 m1 t1 u1 p1) 51)) wr.heap.size 0 (ndC k1 a1 b1 m1 t1 u1 p1)) := (xqd wr 51 (ndC k1 a1 b1 m1 t1 u1 p1)).inV;have Hgl := hid hgl;clear hx hin bn HO3 HB3 hV hgl;go_wp2_with (first | (refine xqf (by rfl) _ _ (by rfl) _ _ (by rfl) _ (by assumption) (by assumption) ?_) | (refine xqg (by rfl) _ _ _ (by rfl) _ _ _ (by rfl) (by rfl) (by assumption) ?_));refine (tMoved_c k1 a1 b1 m1 t1 u1 p1 d ft fu fa0 fa1 fb0 fb1 hd6 V HV.out _).mono ?_;rintro e w3 ⟨rfl, bn⟩;have HO5 := HO4.out.below bn;have HB5 := hid (HB4.out.trans (bn.mono (by have := Hgl.out; simp; omega)));have HC : Hid (NdR w3 g (mixL L0 k d ts i) ∧ V = ndV (xqj d ⟨k1, a1, b1, m1, t1, u1, p1⟩) ∧ k * 7 + i * 7 = (k + i) * 7 ∧ k + i < (mixL L0 k d ts i).length) := ⟨HO5, HV.out.symm, by omega, by rw [len_mix HK.out (by rw [← HN.out]; exact hi)]; have := HL.out.2.2.2; omega⟩;clear bn HO4 HB4 HO5 HI_x HI_y HU_x;go_wp2_with (refine wpList_storeNd (by rfl) _ _ (by rfl) g (k * 7 + i * 7) (by rfl) V (by rfl) _ _ (k + i) HC ?_)
    intro w4 HO6 HB6;have HB7 := hid (HB6.out g w (Nat.le_refl _) HB5.out);have HO7 : Hid (NdR w4 g (mixL L0 k d ts (i + 1))) := by show NdR _ _ _; rw [← lay_step HX.out HK.out]; exact HO6.out
    clear HO6 HB6 HC HB5;go_wp2
    exact ⟨⟨i + 1, by go_num, hlt, HO7, HB7⟩, by simp [intOf]; omega⟩
  · obtain rfl : i = n := by omega
    have HOf : Hid (NdR wr g (layL L0 k (ts.map (xqj d)))) := by
     have h := HO3.out;rw [HN.out, mix_end] at h;exact h
    go_wp2
    go_end0
    exact ⟨rfl, HOf.out, HB3.out⟩
theorem step_at {ts : List Nd} {o : List Nat} (h : yzt ts = some o) {k : Nat} {x : Nd} (hx : ts[k]? = some x) : ∃ s, xz6 (o.take k) x = some s ∧ (o.take k).length = k := by
 have hk := (List.getElem?_eq_some_iff.1 hx).1;have h1 := zji h k;cases hs : xz6 (o.take k) x with
 | none => rw [yvp hx h1 hs] at h; cases h
 | some s => exact ⟨s, rfl, by rw [List.length_take, begT_len h]; omega⟩
theorem fair_good {ts : List Nd} (hg : xq5 ts = true) (hm : Mild ts) : ∀ x ∈ ts, Fair x := by
 intro x hx;obtain ⟨i, hi, rfl⟩ := List.mem_iff_getElem.1 hx;obtain ⟨g1, g2, o, hb, hl, hlo, _⟩ := xz4 hg;have hxe : ts[i]? = some ts[i] := List.getElem?_eq_getElem hi;obtain ⟨s, hs, hol⟩ := step_at hb hxe;obtain ⟨hf, hc⟩ := xvs hs;obtain ⟨h1, h2⟩ := hm.at hxe;have hlo2 := zqd (zji hb i);refine ⟨h1, h2, ?_⟩;generalize ts[i] = y at *;cases hc with
 | leaf hk _ =>
  unfold xjw at hf;rcases hk with hk | hk
  · rw [if_pos hk] at hf;simp only [Bool.and_eq_true, decide_eq_true_eq] at hf;omega
  · rw [if_neg (by omega), if_pos hk] at hf;simp only [Bool.and_eq_true, decide_eq_true_eq] at hf;omega
 | one hk j ha hj _ =>
  have hb0 : y.b = 0 := by
   have h78 := oneK_iff.1 hk;unfold xjw at hf;rw [if_neg (by omega), if_neg (by omega), if_neg (by rw [xwm hk]; decide)] at hf;rcases h78 with h | h
   · rw [if_pos h] at hf;simp only [Bool.and_eq_true, decide_eq_true_eq] at hf;omega
   · rw [if_neg (by omega), if_pos h] at hf;simp only [Bool.and_eq_true, decide_eq_true_eq] at hf;omega
  omega
 | two hk j i2 hb hj ha hi2 _ =>
  have := hlo2.le j;omega
def packF (acc : List Nd) : List (List Nd) → List Nd
 | [] => acc
 | c :: r => packF (acc ++ c.map (xqj acc.length)) r
def yqq (us : List (List Nd)) : List Nd := packF [] us
def sumL (us : List (List Nd)) : Nat := (us.map List.length).sum
theorem packF_snoc (us : List (List Nd)) (c : List Nd) : ∀ acc, packF acc (us ++ [c]) = packF acc us ++ c.map (xqj (packF acc us).length) := by
 induction us with
 | nil => intro acc; rfl
 | cons u us ih => intro acc; exact ih _
theorem packL_next {us : List (List Nd)} {k : Nat} {c : List Nd} (h : us[k]? = some c) : yqq (us.take (k + 1)) = yqq (us.take k) ++ c.map (xqj (yqq (us.take k)).length) := by
 rw [List.take_add_one, h, Option.toList_some];exact packF_snoc _ _ _
theorem packF_len (us : List (List Nd)) : ∀ acc, (packF acc us).length = acc.length + sumL us := by
 induction us with
 | nil => intro acc; rfl
 | cons u us ih =>
  intro acc;show (packF _ us).length = _;rw [ih];simp [sumL];omega
theorem packL_len (us : List (List Nd)) : (yqq us).length = sumL us := by have := packF_len us []; simpa [yqq] using this
theorem sumL_next {us : List (List Nd)} {k : Nat} {c : List Nd} (h : us[k]? = some c) : sumL (us.take (k + 1)) = sumL (us.take k) + c.length := by
 rw [List.take_add_one, h, Option.toList_some];simp [sumL]
theorem sumL_le (us : List (List Nd)) (k : Nat) : sumL (us.take k) ≤ sumL us := by
 have : sumL us = sumL (us.take k) + sumL (us.drop k) := by
  unfold sumL;rw [List.map_take, List.map_drop, ← List.sum_append, List.take_append_drop]
 omega
theorem lay_pack {P : List Nd} {r : Nat} {c : List Nd} (h : c.length ≤ r) : layL (P ++ List.replicate r zNd) P.length c = P ++ c ++ List.replicate (r - c.length) zNd := by
 unfold layL;rw [List.take_left, List.append_assoc, List.drop_append, List.drop_of_length_le (by omega), List.nil_append, Nat.add_sub_cancel_left, List.drop_replicate]
def packR (x : Nd) (us : List (List Nd)) : Option (List Nd) := if xjw x = true ∧ us.all xq5 = true ∧ 1 + sumL us ≤ 2000 then some (yqq us ++ [x]) else none
def ChR (w : World) (A : Option Addr) (m : Nat) (us : List (List Nd)) : Prop := m = us.length ∧ m ≤ 10 ∧ ∀ i ts, us[i]? = some ts → ∃ g o B n c, A = some ⟨g, o, none⟩ ∧ g < w.heap.size ∧ w.cell? ⟨g, o + i, none⟩ = some (.slice B n c) ∧ TreR w B n c ts
theorem ChR.below {w w' : World} {A : Option Addr} {m : Nat} {us : List (List Nd)} (h : ChR w A m us) (hb : Below w.heap.size w w') : ChR w' A m us := by
 refine ⟨h.1, h.2.1, fun i ts hi => ?_⟩;obtain ⟨g, o, B, n, c, e, hg, hc, ht⟩ := h.2.2 i ts hi;exact ⟨g, o, B, n, c, e, Nat.lt_of_lt_of_le hg hb.size, (hb.cell (p := ⟨g, o + i, none⟩) hg).trans hc, ht.below hb⟩
theorem NdR.one {w : World} {g : Nat} {x : Nd} (h : RowA w g 51 (ndV x)) : NdR w g [x] := by
 unfold NdR;have e : (xql [x]).toArray = ndV x := by simp [xql]
 rw [e]; exact h
set_option maxRecDepth 100000 in
theorem tGrown_c (kk a b m0 : Int) (t u : ByteArray) (p : Int) (ht : t.size ≤ 1000000) (hu : u.size ≤ 1000000) {w : World} (T : XTab w) {A : Option Addr} {m mc : Nat} (hmc : m ≤ mc ∧ mc ≤ maxLen) {us : List (List Nd)} (h : ChR w A m us) (hm : ∀ ts ∈ us, Mild ts) (hx : us.all xq5 = true → 0 ≤ a ∧ a ≤ 1000000 ∧ 0 ≤ b ∧ b ≤ 1000000) (R : Option (List Nd)) (hR : packR ⟨kk, a, b, m0, t, u, p⟩ us = R) :
 Calls Tryz.prog 155 #[.agg (ndC kk a b m0 t u p), .slice A m mc] w fun e w' => ∃ A2 n2 c2, e = .returned (.tuple #[.slice A2 n2 c2, .bool R.isSome]) ∧ TreR w' A2 n2 c2 (R.getD []) ∧ Below w.heap.size w w' := by
 obtain ⟨hmu, hm10, _⟩ := id h;obtain ⟨mc1, mc2⟩ := hmc;have HR := hid hR;have HC0 := hid h;have HMi := hid hm;have HT := hid T;have HMU := hid hmu;have HXf := hid hx;have b0 := xqc w (.cells (ndC kk a b m0 t u p) 51);have hrx := xqd w 51 (ndC kk a b m0 t u p);have HB0 := hid b0;have HM_x := hid (xjx kk a b m0 t u p);have HI_x := hid hrx.inV;clear hR h hm T hmu hx b0;cases hf : xjw ⟨kk, a, b, m0, t, u, p⟩
 · have HFt := hid hf;clear hf;go_enter Tryz.func155, Tryz.ntmps155;go_wp2_with (refine xqf (by rfl) _ _ (by rfl) _ _ (by rfl) _ (by assumption) (by assumption) ?_);refine (tFits_c kk a b m0 t u p ht hu _ (HT.out.below HB0.out) false HFt.out).mono ?_;rintro e w1 ⟨rfl, bn⟩;have HB1 := hid (xqa HB0.out bn);have HX1 := hid (RowA.below hrx bn);clear bn HI_x hrx HB0;have HR0 : Hid (R = Option.none) := by
    show _ = _;rw [← HR.out];exact if_neg (fun h => by rw [HFt.out] at h; cases h.1)
   go_wp2
   go_ret2
   exact ⟨none, 0, 0, by rw [HR0.out]; rfl, by rw [HR0.out]; exact TreR.nil _ (Nat.zero_le _), HB1.out⟩
 · skip
   have HFt := hid hf;clear hf;go_enter Tryz.func155, Tryz.ntmps155;go_wp2_with (refine xqf (by rfl) _ _ (by rfl) _ _ (by rfl) _ (by assumption) (by assumption) ?_);refine (tFits_c kk a b m0 t u p ht hu _ (HT.out.below HB0.out) true HFt.out).mono ?_;rintro e w1 ⟨rfl, bn⟩;have HB1 := hid (xqa HB0.out bn);have HX1 := hid (RowA.below hrx bn);clear bn HI_x hrx HB0;go_wp2
   go_loopw [6, 18] (fun s i wr => ∃ k : Nat, s = .int .i64 (1 + (sumL (us.take k) : Int)) ∧ i = .int .i64 (k : Int) ∧ k ≤ m ∧ Hid (sumL (us.take k) ≤ k * 1000000) ∧ Hid (∀ j c, j < k → us[j]? = some c → xq5 c = true) ∧ Hid (Below w1.heap.size w1 wr)) (fun _ i _ => m - (intOf i).toNat)
   case atStart => exact ⟨0, rfl, rfl, Nat.zero_le _, Nat.zero_le _, fun j c h => absurd h (Nat.not_lt_zero j), Below.refl _ _⟩
   case round =>
    obtain ⟨k, rfl, rfl, hk, HS, HG, HB⟩ := hrel;have HBw := hid (xqa HB1.out HB.out);by_cases hlt : k < m
    · skip
      obtain ⟨ts, hts⟩ : ∃ x, us[k]? = some x := ⟨_, List.getElem?_eq_getElem (by rw [← HMU.out]; exact hlt)⟩;have HTS := hid hts;obtain ⟨g, og, B, n, c, rfl, hg, hc, htr⟩ := (HC0.out.below HBw.out).2.2 k ts hts;have hmi := HMi.out ts (List.mem_of_getElem? hts);have hn6 := hmi.1;rw [← htr.1] at hn6;have HMt := hid hmi;have HTR := hid htr;have hs6 := HS.out;obtain ⟨sm, hsm⟩ : ∃ s, sumL (us.take k) = s := ⟨_, rfl⟩;have HSM := hid hsm;rw [hsm] at hs6 ⊢;have hs7 : sm ≤ 10000000 := by omega
      have HSB : Hid (sumL (us.take k) ≤ k * 1000000) := HS;clear hts hg hmi htr hs6 hsm HS;go_wp2_with fail
      cases hgd : xq5 ts
      · have HGD := hid hgd;clear hgd;refine (xw5 HTR.out HMt.out (HT.out.below HBw.out) false HGD.out).mono ?_;rintro e w2 ⟨rfl, bn⟩;have HB2 := hid (xqa HBw.out bn);clear bn;have HR0 : Hid (R = Option.none) := by
         show _ = _;rw [← HR.out];exact if_neg (fun h => by have h2 := List.all_eq_true.1 h.2.1 ts (List.mem_of_getElem? HTS.out); rw [HGD.out] at h2; cases h2)
        go_wp2
        go_ret2
        exact ⟨none, 0, 0, by rw [HR0.out]; rfl, by rw [HR0.out]; exact TreR.nil _ (Nat.zero_le _), HB2.out⟩
      · have HGD := hid hgd;clear hgd;refine (xw5 HTR.out HMt.out (HT.out.below HBw.out) true HGD.out).mono ?_;rintro e w2 ⟨rfl, bn⟩;have HB2 := hid (xqa HB.out bn);have HS2 : Hid (sumL (us.take (k + 1)) = sm + n) := by show _ = _; rw [sumL_next HTS.out, HSM.out, HTR.out.1]
        have HS3 : Hid (sumL (us.take (k + 1)) ≤ (k + 1) * 1000000) := by
         show _ ≤ _;rw [HS2.out];have : sm ≤ k * 1000000 := by rw [← HSM.out]; exact HSB.out
         omega
        have HG2 : Hid (∀ j c, j < k + 1 → us[j]? = some c → xq5 c = true) := by
         intro j c2 hj h2c;rcases Nat.lt_or_ge j k with h | h
         · exact HG.out j c2 h h2c
         · obtain rfl : j = k := by omega
           obtain rfl := Option.some.inj (HTS.out.symm.trans h2c);exact HGD.out
        clear bn hc HG;go_wp2
        go_roundw
        case rel => exact ⟨k + 1, by rw [HS2.out]; first | rfl | (go_num), by go_num, hlt, HS3, HG2, HB2⟩
        case measure => simp [intOf]; omega
    · skip
      obtain rfl : m = k := by omega
      have hall : us.all xq5 = true := List.all_eq_true.2 fun c hc => by
       obtain ⟨j, hj, e⟩ := List.mem_iff_getElem.1 hc;exact HG.out j c (by rw [HMU.out]; exact hj) (by rw [← e]; exact List.getElem?_eq_getElem hj)
      have HALL := hid hall;have hs6 := HS.out;obtain ⟨sm, hsm⟩ : ∃ s, sumL (us.take m) = s := ⟨_, rfl⟩;rw [hsm] at hs6 ⊢;have HSM : Hid (sumL us = sm) := by show _ = _; rw [← hsm, HMU.out, List.take_length]
      have hs7 : sm ≤ 10000000 := by omega
      have HX2 := hid (HX1.out.below HB.out);clear hall hs6 hsm HS HG HB;by_cases hbig : 2000 < 1 + sm
      · have hb2 : (2000 : Int) < 1 + (sm : Int) := by omega
        have HR0 : Hid (R = Option.none) := by
         show _ = _;rw [← HR.out];exact if_neg (fun h => by have := h.2.2; rw [HSM.out] at this; omega)
        go_wp2
        go_ret2
        exact ⟨none, 0, 0, by rw [HR0.out]; rfl, by rw [HR0.out]; exact TreR.nil _ (Nat.zero_le _), HBw.out⟩
      · have hb2 : ¬ (2000 : Int) < 1 + (sm : Int) := by omega
        have HRs : Hid (R = some (yqq us ++ [⟨kk, a, b, m0, t, u, p⟩])) := by
         show _ = _;rw [← HR.out];exact if_pos ⟨HFt.out, HALL.out, by rw [HSM.out]; omega⟩
        obtain ⟨S, hS1⟩ : ∃ S, 1 + sm = S := ⟨_, rfl⟩;have hSi : (1 + (sm : Int)) = (S : Int) := by omega
        have hmk := made_nd wr S (by omega);have bnw := xqc wr (.cells (xql (List.replicate S zNd)).toArray 51);have HBz := hid (xqa HBw.out bnw);have HX3 := hid (HX2.out.below bnw);have HQ : Hid (w.heap.size ≤ wr.heap.size ∧ w.heap.size < (wr.alloc (.cells (xql (List.replicate S zNd)).toArray 51)).heap.size) := by have h1 := HBw.out.size; exact ⟨h1, by simp; omega⟩
        have HN0 : Hid (NdR (wr.alloc (.cells (xql (List.replicate S zNd)).toArray 51)) wr.heap.size (List.replicate S zNd)) := xqd _ _ _;have HXq : Hid (w.heap.size < wr.heap.size) := RowA.lt HX2.out;clear bnw HX2 HBw HX1 HB1;go_wp2
        generalize wr.alloc (.cells (xql (List.replicate S zNd)).toArray 51) = w3 at *;generalize wr.heap.size = q at *;clear hmk hSi
        go_loopw [10, 36] (fun s i wr => ∃ k : Nat, s = .int .i64 ((yqq (us.take k)).length : Int) ∧ i = .int .i64 (k : Int) ∧ k ≤ m ∧ Hid (NdR wr q ((yqq (us.take k)) ++ List.replicate (S - (yqq (us.take k)).length) zNd)) ∧ Hid (Below q w3 wr)) (fun _ i _ => m - (intOf i).toNat)
        case atStart => exact ⟨0, rfl, rfl, Nat.zero_le _, HN0, Below.refl _ _⟩
        case round =>
         obtain ⟨k, rfl, rfl, hk, HN, HB⟩ := hrel;have HBw := hid (HBz.out.trans (HB.out.mono (Nat.le_of_lt HXq.out)));by_cases hlt : k < m
         · skip
           obtain ⟨ts, hts⟩ : ∃ x, us[k]? = some x := ⟨_, List.getElem?_eq_getElem (by rw [← HMU.out]; exact hlt)⟩;have HTS := hid hts;obtain ⟨g, og, B, n, c, rfl, hg, hc, htr⟩ := (HC0.out.below HBw.out).2.2 k ts hts;have hmi := HMi.out ts (List.mem_of_getElem? hts);have hgd := List.all_eq_true.1 HALL.out ts (List.mem_of_getElem? hts);have hfr := hid (fair_good hgd hmi);have h1g := (xz4 hgd).1;rw [← htr.1] at h1g;have hsn := sumL_next hts;have hsl := sumL_le us (k + 1);rw [hsn, HSM.out, ← htr.1, ← packL_len (us.take k)] at hsl;obtain ⟨P, hP⟩ : ∃ P, yqq (us.take k) = P := ⟨_, rfl⟩;have HP := hid hP;rw [hP] at hsl HN ⊢;have hPS : (P.length : Int) < (S : Int) := by omega
           have hPS2 : P.length < S := by omega
           have hPS3 : n ≤ S - P.length := by omega
           have HLn : Hid ((P ++ List.replicate (S - P.length) zNd).length = S) := by show _ = _; simp; omega
           have HTR := hid htr;clear hts hg hmi hgd hsn hsl htr hP;go_wp2_with fail
           refine (tLay_c (k := P.length) (d := P.length) HN.out (Nat.le_refl _) (by omega) HTR.out h1g hPS3 (by rw [HLn.out]; omega) (by omega) hfr.out rfl).mono ?_;rintro e w4 ⟨rfl, hL, hb⟩;have HB2 := hid (HB.out.trans hb);have HPn : Hid (yqq (us.take (k + 1)) = P ++ ts.map (xqj P.length)) := by show _ = _; rw [packL_next HTS.out, HP.out]
           have HLl : Hid ((yqq (us.take (k + 1))).length = P.length + n) := by show _ = _; rw [HPn.out, List.length_append, List.length_map, HTR.out.1]
           have HN2 : Hid (NdR w4 q (yqq (us.take (k + 1)) ++ List.replicate (S - (yqq (us.take (k + 1))).length) zNd)) := by
            show NdR _ _ _;rw [lay_pack (by rw [List.length_map, ← HTR.out.1]; exact hPS3)] at hL;rw [HLl.out, HPn.out, show S - (P.length + n) = S - P.length - (ts.map (xqj P.length)).length by rw [List.length_map, ← HTR.out.1]; omega];exact hL
           clear hL hb HN HB hc;go_wp2
           go_roundw
           case rel => exact ⟨k + 1, by rw [HLl.out]; first | rfl | (go_num), by go_num, hlt, HN2, HB2⟩
           case measure => simp [intOf]; omega
         · skip
           obtain rfl : m = k := by omega
           have hPk : us.take m = us := by rw [HMU.out, List.take_length]
           rw [hPk] at HN ⊢;have hpl := packL_len us;rw [HSM.out] at hpl;have HPL := hid hpl;rw [hpl] at HN ⊢;rw [show S - sm = 1 by omega] at HN;obtain ⟨xa0, xa1, xb0, xb1⟩ := HXf.out HALL.out;have hFair : Hid (∀ y ∈ [(⟨kk, a, b, m0, t, u, p⟩ : Nd)], Fair y) := fun y hy => by rw [List.mem_singleton.1 hy]; exact ⟨ht, hu, xa0, xa1, xb0, xb1⟩
           have HX4 : Hid (RowA wr w.heap.size 51 (ndC kk a b m0 t u p)) := (HB.out.block _ HXq.out).trans HX3.out;have hsS : (sm : Int) < (S : Int) := by omega
           have hqw : q < wr.heap.size := RowA.lt HN.out;clear hPk hpl HX3;go_wp2
           generalize wr = wS at *;have Hsub : Hid (S - sm = 1) := by show _ = _; omega
           have HLq : Hid (0 < 1 ∧ sm + 1 ≤ (yqq us ++ List.replicate 1 zNd).length) := ⟨by omega, by simp [HPL.out]⟩
           refine xz7 5 1 [51, 52, 53, 54, 55] ?aF1 (fun wx => Below wS.heap.size wS wx) (fun k vv wx => match k with
            | 0 => vv = .slice (some ⟨q, 0, none⟩) S S
            | 1 => vv = .int .i64 (sm : Int)
            | 2 => vv = .slice (some ⟨q, sm * 7, none⟩) (S - sm) (S - sm)
            | 3 => vv = .agg (ndC kk a b m0 t u p)
            | _ => ∃ (e0 : Nat), vv = .slice (some ⟨e0, 0, none⟩) 1 1 ∧ RowA wx e0 51 (ndC kk a b m0 t u p))
            (fun k => false) (by kernel_rfl) ?haF1 rfl (by kernel_rfl) (by kernel_rfl) (fun _ _ _ _ _ h => h) ?hSb1 ?hPb1 ?hS1 ?hop1 ?hfin1
           case haF1 =>
            intro vals;simp only [xqx, List.getElem?_cons_zero, List.getElem?_cons_succ, Act.put, List.setIfInBounds_toArray, List.set_cons_zero, List.set_cons_succ];exact rfl
           case hSb1 => exact fun wx w2 hb hS => xqa hS hb
           case hPb1 =>
            intro k v wa wb hb h
            match k, h with
            | 0, h => exact h
            | 1, h => exact h
            | 2, h => exact h
            | 3, h => exact h
            | _ + 4, ⟨e0, h1, g0⟩ => exact ⟨e0, h1, g0.below hb⟩
           case hS1 => exact (Below.refl _ _).drew
           case hop1 =>
            refine .cons (k := 0) ?_ (.cons (k := 1) ?_ (.cons (k := 2) ?_ (.cons (k := 3) ?_ (.cons (k := 4) ?_ (.nil)))))
            all_goals intro vals wr hS hd KC hK
            all_goals (show Oper.wp _ _ _ _ _ _; dsimp only)
            · go_simp;refine hK _ _ rfl (Below.refl _ _) (by first | rfl | simp) (fun h => by cases h)
            · go_simp;refine hK _ _ rfl (Below.refl _ _) (by first | rfl | simp) (fun h => by cases h)
            · have d0 : vals 0 = _ := hd 0 (by decide +kernel);have d1 : vals 1 = _ := hd 1 (by decide +kernel);rw [d0, d1];have g1 : sm ≤ S := by omega
              have g2 : ¬ S = sm := by omega
              go_simp;exact hK _ _ rfl (Below.refl _ _) rfl (fun h => by cases h)
            · refine xq1 51 _ rfl w.heap.size 0 (by kernel_rfl) (ndC kk a b m0 t u p) (hid (HX4.out.below hS).inV) (hid HM_x.out) ?_;refine hK _ _ rfl (Below.refl _ _) (by first | rfl | simp) (fun h => by cases h)
            · have d3 : vals 3 = _ := hd 3 (by decide +kernel);rw [d3];go_simp;exact hK _ _ rfl (xqc _ _) ⟨_, rfl, xqd wr _ _⟩ (fun h => by cases h)
           case hfin1 =>
            intro vals wr hS hP hne;have ez_2 : vals 2 = _ := hP 2 (by decide);obtain ⟨n_4_0, ez_4, h_4_0⟩ := hP 4 (by decide);have HN5 : Hid (NdR wr q (yqq us ++ List.replicate 1 zNd)) := HN.out.below hS;have hnd : NdR wr n_4_0 [⟨kk, a, b, m0, t, u, p⟩] := NdR.one h_4_0;have HT5 : Hid (TreR wr (some ⟨n_4_0, 0, none⟩) 1 1 [⟨kk, a, b, m0, t, u, p⟩]) := hnd.tree (by show 1 ≤ maxLen; unfold maxLen; omega)
            try dsimp only
            rw [ez_2, ez_4];refine wpAny_ready (rs := [5]) (by kernel_rfl) (by simp) (AllReady.cons rfl (fun KC hK => ?_) AllReady.nil);go_simp;rw [Hsub.out];go_at_call 174
            with_reducible refine (tLay_c (k := sm) (d := 0) (D := 0) (ts := [⟨kk, a, b, m0, t, u, p⟩]) HN5.out (Nat.le_refl 1) (by decide) HT5.out (by decide) (Nat.le_refl 1) HLq.out.2 (by decide) hFair.out rfl).mono ?_
            rintro e w6 ⟨rfl, hL6, hb6⟩;refine hK _ _ ?_;clear hK KC
            try dsimp only [Act.put]
            refine wpAny_done (by kernel_rfl) ?_ _;have HNf : Hid (NdR w6 q (yqq us ++ [⟨kk, a, b, m0, t, u, p⟩])) := by
             show NdR _ _ _;have h := hL6;rw [← HPL.out, lay_pack (by simp), List.map_singleton, yzf] at h
             simpa using h
            have HBf : Hid (Below w.heap.size w w6) := (xqa HBw.out hS).trans (hb6.mono HQ.out.1);have htr6 := HNf.out.tree (by simp [HPL.out]; unfold maxLen; omega);rw [show (yqq us ++ [(⟨kk, a, b, m0, t, u, p⟩ : Nd)]).length = S by simp [HPL.out]; omega] at htr6;have HTR6 := hid htr6;clear htr6 hL6 hb6 hS hP hne;go_wp2
            go_ret2
            exact ⟨_, _, _, by rw [HRs.out]; rfl, by rw [HRs.out]; exact HTR6.out, HBf.out⟩
theorem ChR.nil (w : World) : ChR w none 0 [] := ⟨rfl, by omega, fun i ts h => by simp at h⟩
set_option maxRecDepth 100000 in
theorem tLit_c (t u : ByteArray) (ht : t.size ≤ 1000000) (hu : u.size ≤ 1000000) {w : World} (T : XTab w) (R : Option (List Nd)) (hR : packR ⟨1, 0, 0, 0, t, u, 0⟩ [] = R) :
 Calls Tryz.prog 134 #[.string t, .string u] w fun e w' => ∃ A2 n2 c2, e = .returned (.tuple #[.slice A2 n2 c2, .bool R.isSome]) ∧ TreR w' A2 n2 c2 (R.getD []) ∧ Below w.heap.size w w' := by
 have HBd : Hid (∀ W, (Instr.build 51 ([(0, .int .i64 1), (4, .string t), (5, .string u)] : List (Nat × Value)).toArray).run Tryz.prog W = .ok (.agg (ndC 1 0 0 0 t u 0)) W) := fun W => by kernel_rfl
 have HR := hid hR;have HT := hid T;have HBw := hid (Below.refl w.heap.size w);clear hR T;go_enter Tryz.func134, Tryz.ntmps134;go_wp2_with (refine xqn (by rfl) _ _ (by rfl) _ (by rfl) _ (by assumption) ?_);refine (tGrown_c 1 0 0 0 t u 0 ht hu HT.out (m := 0) (mc := 0) ⟨by omega, by unfold maxLen; omega⟩ (ChR.nil w) (fun ts h => by cases h) (fun _ => by omega) R HR.out).mono ?_;rintro e w2 ⟨A2, n2, c2, rfl, htr, bn⟩;have HTR := hid htr;have HB := hid (xqa HBw.out bn);clear htr bn;go_wp2
 go_ret2
 exact ⟨_, _, _, rfl, HTR.out, HB.out⟩
set_option maxRecDepth 100000 in
theorem tEqf_c {w : World} {A B : Option Addr} {n c m0 d : Nat} {ts us : List Nd} (h1 : TreR w A n c ts) (h2 : TreR w B m0 d us) (v : Bool) (hv : sameT ts us = v) :
 Calls Tryz.prog 135 #[.slice A n c, .slice B m0 d, .func (.func 136) #[] #[]] w fun e w' => e = .returned (.bool v) ∧ Below w.heap.size w w' := by
 obtain ⟨hn, hc, hcm, _⟩ := id h1;obtain ⟨hn2, hc2, hcm2, _⟩ := id h2;have H1 := hid h1;have H2 := hid h2;have HN1 := hid hn;have HN2 := hid hn2;have HV := hid hv;clear h1 h2 hn hn2 hv;have eq1 : maxLen = 9223372036854775807 := rfl;by_cases hl : n = m0
 · subst hl;go_enter Tryz.func135, Tryz.ntmps135;go_wp2
   go_loopw [17] (fun i wr => ∃ k : Nat, i = .int .i64 (k : Int) ∧ k ≤ n ∧ Hid (∀ i x y, i < k → ts[i]? = some x → us[i]? = some y → ywv x y = true) ∧ Hid (Below w.heap.size w wr)) (fun i _ => n - (intOf i).toNat)
   case atStart => exact ⟨0, rfl, Nat.zero_le _, fun i x y h => absurd h (Nat.not_lt_zero i), Below.refl _ _⟩
   case round =>
    obtain ⟨k, rfl, hk, HP, HB⟩ := hrel;by_cases hlt : k < n
    · skip
      obtain ⟨x, hx⟩ : ∃ x, ts[k]? = some x := ⟨_, List.getElem?_eq_getElem (by rw [← HN1.out]; exact hlt)⟩;obtain ⟨y, hy⟩ : ∃ y, us[k]? = some y := ⟨_, List.getElem?_eq_getElem (by rw [← HN2.out]; exact hlt)⟩;have HX := hid hx;have HY := hid hy;obtain ⟨g, og, rfl, hg, hin⟩ := (H1.out.below HB.out).at hx;obtain ⟨g2, og2, rfl, hg2, hin2⟩ := (H2.out.below HB.out).at hy;obtain ⟨k1, a1, b1, m1, t1, u1, p1⟩ := x;obtain ⟨k2, a2, b2, m2, t2, u2, p2⟩ := y;have bn1 := xqc wr (.cells (ndC k1 a1 b1 m1 t1 u1 p1) 51);have bn2 := xqc (wr.alloc (.cells (ndC k1 a1 b1 m1 t1 u1 p1) 51)) (.cells (ndC k2 a2 b2 m2 t2 u2 p2) 51);have HI_1 : Hid (InV wr g (og + k * 7) (ndC k1 a1 b1 m1 t1 u1 p1)) := hin;have HI_2 : Hid (InV (wr.alloc (.cells (ndC k1 a1 b1 m1 t1 u1 p1) 51)) g2 (og2 + k * 7) (ndC k2 a2 b2 m2 t2 u2 p2)) := InV.below hin2 hg2 bn1;have HI_3 : Hid (InV ((wr.alloc (.cells (ndC k1 a1 b1 m1 t1 u1 p1) 51)).alloc (.cells (ndC k2 a2 b2 m2 t2 u2 p2) 51)) wr.heap.size 0 (ndC k1 a1 b1 m1 t1 u1 p1)) := ((xqd wr 51 (ndC k1 a1 b1 m1 t1 u1 p1)).below bn2).inV;have HI_4 : Hid (InV ((wr.alloc (.cells (ndC k1 a1 b1 m1 t1 u1 p1) 51)).alloc (.cells (ndC k2 a2 b2 m2 t2 u2 p2) 51)) (wr.heap.size + 1) 0 (ndC k2 a2 b2 m2 t2 u2 p2)) := by have := (xqd (wr.alloc (.cells (ndC k1 a1 b1 m1 t1 u1 p1) 51)) 51 (ndC k2 a2 b2 m2 t2 u2 p2)).inV; rw [World.size_alloc] at this; exact this
      have HM_1 := hid (xjx k1 a1 b1 m1 t1 u1 p1);have HM_2 := hid (xjx k2 a2 b2 m2 t2 u2 p2);have HU_1 : Hid (xq7 Tryz.prog 51 (ndC k1 a1 b1 m1 t1 u1 p1).size ∧ zN.size = (ndC k1 a1 b1 m1 t1 u1 p1).size ∧ ∀ v ∈ ndC k1 a1 b1 m1 t1 u1 p1, v.oneCell' = true) := xz0 ⟨k1, a1, b1, m1, t1, u1, p1⟩ zNd;have HU_2 : Hid (xq7 Tryz.prog 51 (ndC k2 a2 b2 m2 t2 u2 p2).size ∧ zN.size = (ndC k2 a2 b2 m2 t2 u2 p2).size ∧ ∀ v ∈ ndC k2 a2 b2 m2 t2 u2 p2, v.oneCell' = true) := xz0 ⟨k2, a2, b2, m2, t2, u2, p2⟩ zNd;have HB2 := hid (xqa HB.out (xqa bn1 bn2));clear hx hy hin hin2 hg hg2 bn1 bn2 HB;obtain ⟨z, hz⟩ : ∃ z, ywv ⟨k1, a1, b1, m1, t1, u1, p1⟩ ⟨k2, a2, b2, m2, t2, u2, p2⟩ = z := ⟨_, rfl⟩;have HZ := hid hz;clear hz;go_wp2_with (first | (refine xqf (by rfl) _ _ (by rfl) _ _ (by rfl) _ (by assumption) (by assumption) ?_) | (refine xqg (by rfl) _ _ _ (by rfl) _ _ _ (by rfl) (by rfl) (by assumption) ?_));refine (tAlike_c HZ.out _).mono ?_;rintro e w3 ⟨rfl, bn⟩;have HB3 := hid (xqa HB2.out bn);clear bn HB2 HI_1 HI_2 HI_3 HI_4 HU_1 HU_2;cases z
      · have HV0 : Hid (v = false) := by
         show _ = _;rw [← HV.out];refine Bool.eq_false_iff.2 fun e => ?_
         have := (sameT_iff.1 e).2 k _ _ HX.out HY.out;rw [HZ.out] at this; cases this
        go_wp2
        go_ret
        exact ⟨by rw [HV0.out]; rfl, HB3.out⟩
      · have HP2 : Hid (∀ i x y, i < k + 1 → ts[i]? = some x → us[i]? = some y → ywv x y = true) := by
         intro i x y hi h1 h2;rcases Nat.lt_or_ge i k with h | h
         · exact HP.out i x y h h1 h2
         · obtain rfl : i = k := by omega
           obtain rfl := Option.some.inj (HX.out.symm.trans h1);obtain rfl := Option.some.inj (HY.out.symm.trans h2);exact HZ.out
        clear HP;go_wp2
        go_roundw
        case rel => exact ⟨k + 1, by go_num, hlt, HP2, HB3⟩
        case measure => simp [intOf]; omega
    · obtain rfl : k = n := by omega
      have HV1 : Hid (v = true) := by
       show _ = _;rw [← HV.out];exact sameT_iff.2 ⟨HN1.out.symm.trans HN2.out, fun i x y h1 h2 => HP.out i x y (by have := (List.getElem?_eq_some_iff.1 h1).1; rw [HN1.out]; exact this) h1 h2⟩
      go_wp2
      go_ret
      exact ⟨by rw [HV1.out]; rfl, HB.out⟩
 · have HV0 : Hid (v = false) := by
    show _ = _;rw [← HV.out];exact Bool.eq_false_iff.2 fun e => hl (by rw [HN1.out, HN2.out]; exact (sameT_iff.1 e).1)
   have e0 : ((n : Int) != (m0 : Int)) = true := by rw [bne_iff_ne]; omega
   go_enter Tryz.func135, Tryz.ntmps135;go_wp2
   go_ret
   exact ⟨by rw [HV0.out]; rfl, Below.refl _ _⟩
set_option maxRecDepth 100000 in
theorem tSame_c {w : World} {A B : Option Addr} {n c m0 d : Nat} {ts us : List Nd} (h1 : TreR w A n c ts) (h2 : TreR w B m0 d us) (v : Bool) (hv : sameT ts us = v) :
 Calls Tryz.prog 104 #[.slice A n c, .slice B m0 d] w fun e w' => e = .returned (.bool v) ∧ Below w.heap.size w w' := by
 have HE := hid (tEqf_c h1 h2 v hv);clear h1 h2 hv;go_enter Tryz.func104, Tryz.ntmps104;go_wp2_with fail
 refine HE.out.mono ?_;rintro e w1 ⟨rfl, bn⟩;have HB := hid bn;clear bn HE;go_wp2
 go_ret
 exact ⟨rfl, HB.out⟩
def deepI (ts : List Nd) : Nat := if xq5 ts = true then (depT ts).getD (ts.length - 1) 0 else 0
theorem map_shift0 (ts : List Nd) : ts.map (xqj 0) = ts := by
 induction ts with
 | nil => rfl
 | cons x r ih => rw [List.map_cons, yzf, ih]
theorem yvf {o : List Nat} {j : Nat} (h : j < o.length) (a b : Nat) : o.getD j a = o.getD j b := by
 rw [List.getD_eq_getElem?_getD, List.getD_eq_getElem?_getD, List.getElem?_eq_getElem h]; rfl
theorem good_over {ts : List Nd} {x : Nd} (hg : xq5 ts = true) (hl : ts.length + 1 ≤ 2000) (hf : xjw x = true) (hk : oneK x.k = true) (ha : x.a = ((ts.length - 1 : Nat) : Int)) : xq5 (ts ++ [x]) = true ∧ deepI (ts ++ [x]) = 1 + deepI ts := by
 obtain ⟨h1, h2, o, hb, hol, hlow, h0⟩ := xz4 hg;have h00 : o.getD (ts.length - 1) 0 = 0 := by rw [yvf (by omega) 0 1]; exact h0
 have hs := stepB_one hf hk ha (by omega : o.length = ts.length - 1 + 1);rw [h00] at hs;have hb2 : yzt (ts ++ [x]) = some (o ++ [0]) := by
  unfold yzt at hb ⊢;rw [xwo, hb, yql hs]; rfl
 have hlen : (ts ++ [x]).length = ts.length + 1 := by rw [List.length_append]; rfl
 have hg2 : xq5 (ts ++ [x]) = true := by
  rw [yve hb2 (by omega) (by omega), hlen, Nat.add_sub_cancel, ← hol, xj5]; rfl
 refine ⟨hg2, ?_⟩;unfold deepI;rw [if_pos hg2, if_pos hg, depT_snoc, hlen, Nat.add_sub_cancel];have h3 := xj5 (depT ts) (depS (depT ts) x) 0;rw [yvm] at h3;rw [h3];unfold depS;rw [if_neg (by rw [xwm hk]; decide), if_pos hk, ha];rfl
theorem getD_two {o q : List Nat} {n j : Nat} (hn : o.length = n) (d : Nat) : (o ++ q).getD (n + j) d = q.getD j d := by subst hn; exact xvf j
theorem good_two {ts us : List Nd} {x : Nd} (hg : xq5 ts = true) (hg' : xq5 us = true) (hl : ts.length + us.length + 1 ≤ 2000) (hf : xjw x = true) (hk : xq8 x.k = true) (ha : x.a = ((ts.length - 1 : Nat) : Int)) (hb0 : x.b = ((ts.length + us.length - 1 : Nat) : Int)) :
 xq5 (ts ++ us.map (xqj ts.length) ++ [x]) = true ∧ deepI (ts ++ us.map (xqj ts.length) ++ [x]) = 1 + max (deepI ts) (deepI us) ∧ xq5 (ts ++ us.map (xqj ts.length)) = false := by
 obtain ⟨h1, h2, o, hb, hol, hlow, h0⟩ := xz4 hg;obtain ⟨h1', h2', q, hb', hol', hlow', h0'⟩ := xz4 hg';have h00 : o.getD (ts.length - 1) 0 = 0 := by rw [yvf (by omega) 0 1]; exact h0
 have h00' : q.getD (us.length - 1) 0 = 0 := by rw [yvf (by omega) 0 1]; exact h0'
 have hj := begT_join hb hb';have hjl : (o ++ q.map (· + ts.length)).length = ts.length + us.length := by rw [List.length_append, List.length_map, hol, hol']
 have hlen0 : (ts ++ us.map (xqj ts.length)).length = ts.length + us.length := by rw [List.length_append, List.length_map]
 have hlast : (o ++ q.map (· + ts.length)).getD (ts.length + us.length - 1) 0 = ts.length := by
  rw [show ts.length + us.length - 1 = ts.length + (us.length - 1) by omega, getD_two hol, xw0 (by omega), h00', Nat.zero_add]
 have hs := stepB_two (o := o ++ q.map (· + ts.length)) hf hk hb0 (by omega) ha (by rw [hlast]; omega);have hfst : (o ++ q.map (· + ts.length)).getD (ts.length - 1) 0 = 0 := by
  rw [List.getD_eq_getElem?_getD, List.getElem?_append_left (by omega), ← List.getD_eq_getElem?_getD, h00]
 rw [hfst] at hs;have hb2 : yzt (ts ++ us.map (xqj ts.length) ++ [x]) = some (o ++ q.map (· + ts.length) ++ [0]) := by
  unfold yzt at hj ⊢;rw [xwo, hj, yql hs]; rfl
 have hlen : (ts ++ us.map (xqj ts.length) ++ [x]).length = ts.length + us.length + 1 := by rw [List.length_append, hlen0]; rfl
 have hg2 : xq5 (ts ++ us.map (xqj ts.length) ++ [x]) = true := by
  rw [yve hb2 (by omega) (by omega), hlen, Nat.add_sub_cancel, ← hjl, xj5]; rfl
 refine ⟨hg2, ?_, ?_⟩
 · unfold deepI;rw [if_pos hg2, if_pos hg, if_pos hg', depT_snoc, hlen, Nat.add_sub_cancel];have h3 := xj5 (depT (ts ++ us.map (xqj ts.length))) (depS (depT (ts ++ us.map (xqj ts.length))) x) 0;rw [yvm, hlen0] at h3;rw [h3];unfold depS;rw [if_pos hk, ha, hb0, depT_join hb', Int.toNat_natCast, Int.toNat_natCast];have e1 : (depT ts ++ depT us).getD (ts.length - 1) 0 = (depT ts).getD (ts.length - 1) 0 := by
    rw [List.getD_eq_getElem?_getD, List.getElem?_append_left (by rw [yvm]; omega), ← List.getD_eq_getElem?_getD]
   have e2 : (depT ts ++ depT us).getD (ts.length + us.length - 1) 0 = (depT us).getD (us.length - 1) 0 := by
    rw [show ts.length + us.length - 1 = ts.length + (us.length - 1) by omega, getD_two (yvm ts)]
   rw [e1, e2]
 · rw [yve hj (by omega) (by omega), hlen0, decide_eq_false];rw [yvf (by omega) 1 0, hlast];omega
end Go.Proofs.YtannifhcjcbkcaaGreatDoor
