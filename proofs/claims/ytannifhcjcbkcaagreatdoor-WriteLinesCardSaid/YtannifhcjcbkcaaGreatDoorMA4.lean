/- Part 4 of the texts that the statements of this seat lean on: mathematics, and what functions answer, as contracts over memory; each part says its own conditions. -/
import Derived.Test.YtannifhcjcbkcaaGreatDoorMA3
import Derived.Laws.CopyOwn
namespace Go.Proofs.YtannifhcjcbkcaaGreatDoor
open Go.RowKit Limb
set_option linter.unusedVariables false
def Mild (ts : List Nd) : Prop := ts.length ≤ 1000000 ∧ ∀ x ∈ ts, x.t.size ≤ 1000000 ∧ x.u.size ≤ 1000000
theorem Mild.at {ts : List Nd} (h : Mild ts) {i : Nat} {x : Nd} (hx : ts[i]? = some x) : x.t.size ≤ 1000000 ∧ x.u.size ≤ 1000000 := h.2 x (List.mem_of_getElem? hx)
theorem made_int (W : World) (n : Nat) (hn : n ≤ 1000000) : (Instr.makeSlice 81 (.int .i64 (n : Int)) (.int .i64 (n : Int))).run Tryz.prog W = .ok (.slice (some ⟨W.heap.size, 0, none⟩) n n) (W.alloc (.cells (ints .i64 (List.replicate n 0)) 3)) := by
 obtain ⟨i0, z, h1, h2, h3, h4, h5, h6, h7⟩ := (elem_of Tryz.underlying81 (v := .int .i64 0) (b := 8) (by kernel_rfl) rfl (by decide) (by decide) : Elem Tryz.prog 81 3 1)
 have hz : z = .int .i64 0 := by
  have : (Tryz.prog.info? 3).map (·.zero) = some (some (.int .i64 0)) := by kernel_rfl
  rw [h2] at this
  simp [h3] at this
  exact this
 have h := run_make (P := Tryz.prog) W 81 3 i0 z h1 h2 h3 .i64 .i64 (n : Int) (n : Int) (by omega) (by omega) (by have : i0.bytes * n ≤ 1000 * 1000000 := Nat.mul_le_mul h7 hn
                                                                                                                  have e : (i0.bytes : Int) * (n : Int) = ((i0.bytes * n : Nat) : Int) := by simp
                                                                                                                  rw [e]; omega) (by omega)
 rw [h4, hz, Int.toNat_natCast, Nat.mul_one] at h
 have e : madeCells (Value.int .i64 0).cells n = ints .i64 (List.replicate n 0) := by
  apply Array.toList_inj.1
  show (madeCells #[Value.int .i64 0] n).toList = _
  rw [toList_madeCells_one]
  simp [ints]
 rw [e] at h
 exact h
theorem nuR_new (W : World) (n : Nat) : NuR (W.alloc (.cells (ints .i64 (List.replicate n 0)) 3)) W.heap.size 3 [] n := by
 unfold NuR
 rw [List.map_nil, List.nil_append]
 exact rowA_new W 3 _
set_option maxHeartbeats 2000000 in
set_option maxRecDepth 100000 in
theorem tGood_c {w : World} {A : Option Addr} {n c : Nat} {ts : List Nd} (h : TreR w A n c ts) (hm : Mild ts) (T : XTab w) (v : Bool) (hv : goodT ts = v) :
 Calls Tryz.prog 54 #[.slice A n c] w fun e w' => e = .returned (.bool v) ∧ Below w.heap.size w w' := by
 obtain ⟨hn, hc, hcm, _⟩ := id h
 have hn6 := hm.1
 rw [← hn] at hn6
 have H := Lib.hid h
 have HM := Lib.hid hm
 have HT := Lib.hid T
 have HN := Lib.hid hn
 clear h hm T hn
 by_cases h0 : n < 1
 · rw [goodT_empty (by rw [← HN.out]; exact h0)] at hv
   subst hv
   obtain rfl : n = 0 := by omega
   go_enter Tryz.func54, Tryz.ntmps54
   go_wp2
   go_ret
   exact ⟨rfl, Below.refl _ _⟩
 · have e0 : ((n : Int) == 0) = false := by rw [beq_eq_false_iff_ne]; omega
   by_cases h2 : 2000 < n
   · rw [goodT_long (by rw [← HN.out]; exact h2)] at hv
     subst hv
     have e2 : decide ((2000 : Int) < (n : Int)) = true := decide_eq_true (by omega)
     go_enter Tryz.func54, Tryz.ntmps54
     go_wp2
     go_ret
     exact ⟨rfl, Below.refl _ _⟩
   · have e2 : decide ((2000 : Int) < (n : Int)) = false := decide_eq_false (by omega)
     have HV := Lib.hid hv
     have hmk := made_int w n hn6
     have bw := below_new w (.cells (ints .i64 (List.replicate n 0)) 3)
     have HS0 := Lib.hid (nuR_new w n)
     clear hv
     go_enter Tryz.func54, Tryz.ntmps54
     go_wp2
     generalize w.alloc (.cells (ints .i64 (List.replicate n 0)) 3) = w1 at *
     obtain ⟨q, hq⟩ : ∃ g, g = w.heap.size := ⟨_, rfl⟩
     rw [← hq] at HS0 ⊢
     clear hmk
     have HQ : Hid (w.heap.size ≤ q) := by show _ ≤ _; omega
     clear hq
     have HB0 := Lib.hid bw
     clear bw
     go_loopw [21] (fun i wr => ∃ os : List Nat, i = .int .i64 (os.length : Int) ∧ os.length ≤ n ∧ Hid (begT (ts.take os.length) = some os) ∧ Hid (NuR wr q 3 os (n - os.length)) ∧ Hid (Below w.heap.size w wr)) (fun i _ => n - (intOf i).toNat)
     case atStart => exact ⟨[], rfl, Nat.zero_le _, rfl, HS0, HB0⟩
     case round =>
      obtain ⟨os, rfl, hk, HBe, HS, HB⟩ := hrel
      have hl6 : os.length ≤ 1000000 := by omega
      have HLow := Lib.hid (begT_low HBe.out)
      by_cases hlt : os.length < n
      · skip
        obtain ⟨x, hx⟩ : ∃ x, ts[os.length]? = some x := ⟨_, List.getElem?_eq_getElem (by rw [← HN.out]; exact hlt)⟩
        have HX := Lib.hid hx
        obtain ⟨g, og, rfl, hg, hin⟩ := (H.out.below HB.out).at hx
        obtain ⟨hxt, hxu⟩ := HM.out.at hx
        obtain ⟨kk, a, b, m, t, u, p⟩ := x
        dsimp only at hxt hxu
        have HI_x : Hid (InV wr g (og + os.length * 7) (ndC kk a b m t u p)) := hin
        have HM_x := Lib.hid (manyNd kk a b m t u p)
        have HU_x : Hid (Many Tryz.prog 51 (ndC kk a b m t u p).size ∧ zN.size = (ndC kk a b m t u p).size ∧ ∀ v ∈ ndC kk a b m t u p, v.oneCell' = true) := fitsNd ⟨kk, a, b, m, t, u, p⟩ zNd
        have hrx := rowA_new wr 51 (ndC kk a b m t u p)
        have bn := below_new wr (.cells (ndC kk a b m t u p) 51)
        have HSs := Lib.hid (HS.out.below bn)
        have HBs := Lib.hid (below_two HB.out bn)
        have Hqw := Lib.hid HS.out.lt
        clear hx hin bn HS HB hg
        go_wp2_with (first | (refine wpList_loadV (by rfl) _ _ (by rfl) _ _ (by rfl) _ (by assumption) (by assumption) ?_) | (refine wpList_storeNew (by rfl) _ _ _ (by rfl) _ _ _ (by rfl) (by rfl) (by assumption) ?_))
        generalize wr.alloc (.cells (ndC kk a b m t u p) 51) = wS at *
        obtain ⟨q5, hq5⟩ : ∃ g, g = wr.heap.size := ⟨_, rfl⟩
        rw [← hq5] at hrx ⊢
        clear hq5 HI_x HU_x Hqw
        cases hE : startN os ⟨kk, a, b, m, t, u, p⟩ with
        | none =>
         have HE := Lib.hid hE
         clear hE
         have HV0 : Hid (v = false) := by
          show _ = _
          rw [← HV.out]
          exact goodT_no (begT_fall HX.out HBe.out (by unfold stepB; rw [HE.out]; split <;> rfl))
         refine region_freed 6 4 6 [27, 28, 29, 30, 31, 26] ?aF6 (fun wx => Below wS.heap.size wS wx) (fun k vv wx => match k with
          | 0 => vv = .agg (ndC kk a b m t u p)
          | 1 => vv = .slice (some ⟨q, 0, none⟩) n n
          | 2 => vv = .int .i64 (os.length : Int)
          | 3 => vv = .slice (some ⟨q, 0, none⟩) os.length n
          | 4 => vv = .tuple #[.int .i64 0, .bool false]
          | _ => vv = .tuple #[.int .i64 0, .bool false])
          (fun k => false) (by kernel_rfl) ?haF6 rfl (by kernel_rfl) (by kernel_rfl) (fun _ _ _ _ _ h => h) ?hSb6 ?hPb6 ?hS6 ?hop6 ?hfin6
         case haF6 =>
          intro vals
          simp only [fillAll, List.getElem?_cons_zero, List.getElem?_cons_succ, Act.put, List.setIfInBounds_toArray, List.set_cons_zero, List.set_cons_succ]
          exact rfl
         case hSb6 => exact fun wx w2 hb hS => below_two hS hb
         case hPb6 =>
          intro k v wa wb hb h
          match k, h with
          | 0, h => exact h
          | 1, h => exact h
          | 2, h => exact h
          | 3, h => exact h
          | 4, h => exact h
          | _ + 5, h => exact h
         case hS6 => exact (Below.refl _ _).drew
         case hop6 =>
          refine .cons (k := 0) (.plain rfl ?_) (.cons (k := 1) (.plain rfl ?_) (.cons (k := 2) (.plain rfl ?_) (.cons (k := 3) (.plain rfl ?_) (.cons (k := 4) (.plain rfl ?_) (.cons (k := 5) (.plain rfl ?_) (.nil))))))
          all_goals intro vals wr hS hd KC hK
          all_goals (show Oper.wp _ _ _ _ _ _; dsimp only)
          · refine wp_loadV 51 _ rfl _ _ rfl (ndC kk a b m t u p) (Lib.hid (hrx.below hS).inV) (Lib.hid HM_x.out) ?_
            refine hK _ _ rfl (Below.refl _ _) (by first | rfl | simp) (fun h => by cases h)
          · go_simp
            refine hK _ _ rfl (Below.refl _ _) (by first | rfl | simp) (fun h => by cases h)
          · go_simp
            refine hK _ _ rfl (Below.refl _ _) (by first | rfl | simp) (fun h => by cases h)
          · have d1 : vals 1 = _ := hd 1 (by decide +kernel)
            have d2 : vals 2 = _ := hd 2 (by decide +kernel)
            rw [d1, d2]
            go_simp
            refine hK _ _ rfl (Below.refl _ _) (by first | rfl | simp) (fun h => by cases h)
          · have d0 : vals 0 = _ := hd 0 (by decide +kernel)
            have d3 : vals 3 = _ := hd 3 (by decide +kernel)
            rw [d0, d3]
            go_simp
            go_at_call 94
            with_reducible refine (tStart_no HLow.out hl6 (HSs.out.below hS) HE.out).mono ?_
            rintro e w2 ⟨rfl, bn_r⟩
            refine hK _ _ rfl bn_r rfl (fun h => by cases h)
          · have d4 : vals 4 = _ := hd 4 (by decide +kernel)
            rw [d4]
            go_simp
            refine hK _ _ rfl (Below.refl _ _) (by first | rfl | simp) (fun h => by cases h)
         case hfin6 =>
          intro vals wr hS hP hne
          have ez_5 : vals 5 = _ := hP 5 (by decide)
          try dsimp only
          rw [ez_5]
          refine wpAny_take (i := 6) rfl (by kernel_rfl) (by kernel_rfl) (by kernel_rfl) (fun _ _ _ h => h) (.inl ⟨rfl, fun _ => rfl⟩) ?_
          simp only [Act.put, List.setIfInBounds_toArray]
          refine wpAny_take (i := 8) rfl (by kernel_rfl) (by kernel_rfl) (by kernel_rfl) (fun _ _ _ h => h) (.inl ⟨rfl, fun _ => rfl⟩) ?_
          simp only [Act.put]
          refine wpAny_take (i := 7) rfl (by kernel_rfl) (by kernel_rfl) (by kernel_rfl) (fun _ _ _ h => h) (.inl ⟨rfl, fun _ => rfl⟩) ?_
          simp only [Act.put]
          refine wpAny_take (i := 9) rfl (by kernel_rfl) (by kernel_rfl) (by kernel_rfl) (fun _ _ _ h => h) (.inl ⟨rfl, fun _ => rfl⟩) ?_
          simp only [Act.put]
          refine wpAny_done (by kernel_rfl) ?_ _
          have HF := Lib.hid (below_two HBs.out hS)
          clear hS hP hne
          go_wp2
          go_ret
          exact ⟨by rw [HV0.out]; rfl, HF.out⟩
        | some s =>
         have HE := Lib.hid hE
         clear hE
         cases hG : fitsN ⟨kk, a, b, m, t, u, p⟩
         · skip
           have HG := Lib.hid hG
           clear hG
           refine region_freed 6 4 6 [27, 28, 29, 30, 31, 26] ?aF7 (fun wx => Below wS.heap.size wS wx) (fun k vv wx => match k with
            | 0 => vv = .agg (ndC kk a b m t u p)
            | 1 => vv = .slice (some ⟨q, 0, none⟩) n n
            | 2 => vv = .int .i64 (os.length : Int)
            | 3 => vv = .slice (some ⟨q, 0, none⟩) os.length n
            | 4 => vv = .tuple #[.int .i64 (s : Int), .bool true]
            | _ => vv = .tuple #[.int .i64 (s : Int), .bool true])
            (fun k => false) (by kernel_rfl) ?haF7 rfl (by kernel_rfl) (by kernel_rfl) (fun _ _ _ _ _ h => h) ?hSb7 ?hPb7 ?hS7 ?hop7 ?hfin7
           case haF7 =>
            intro vals
            simp only [fillAll, List.getElem?_cons_zero, List.getElem?_cons_succ, Act.put, List.setIfInBounds_toArray, List.set_cons_zero, List.set_cons_succ]
            exact rfl
           case hSb7 => exact fun wx w2 hb hS => below_two hS hb
           case hPb7 =>
            intro k v wa wb hb h
            match k, h with
            | 0, h => exact h
            | 1, h => exact h
            | 2, h => exact h
            | 3, h => exact h
            | 4, h => exact h
            | _ + 5, h => exact h
           case hS7 => exact (Below.refl _ _).drew
           case hop7 =>
            refine .cons (k := 0) (.plain rfl ?_) (.cons (k := 1) (.plain rfl ?_) (.cons (k := 2) (.plain rfl ?_) (.cons (k := 3) (.plain rfl ?_) (.cons (k := 4) (.plain rfl ?_) (.cons (k := 5) (.plain rfl ?_) (.nil))))))
            all_goals intro vals wr hS hd KC hK
            all_goals (show Oper.wp _ _ _ _ _ _; dsimp only)
            · refine wp_loadV 51 _ rfl _ _ rfl (ndC kk a b m t u p) (Lib.hid (hrx.below hS).inV) (Lib.hid HM_x.out) ?_
              refine hK _ _ rfl (Below.refl _ _) (by first | rfl | simp) (fun h => by cases h)
            · go_simp
              refine hK _ _ rfl (Below.refl _ _) (by first | rfl | simp) (fun h => by cases h)
            · go_simp
              refine hK _ _ rfl (Below.refl _ _) (by first | rfl | simp) (fun h => by cases h)
            · have d1 : vals 1 = _ := hd 1 (by decide +kernel)
              have d2 : vals 2 = _ := hd 2 (by decide +kernel)
              rw [d1, d2]
              go_simp
              refine hK _ _ rfl (Below.refl _ _) (by first | rfl | simp) (fun h => by cases h)
            · have d0 : vals 0 = _ := hd 0 (by decide +kernel)
              have d3 : vals 3 = _ := hd 3 (by decide +kernel)
              rw [d0, d3]
              go_simp
              go_at_call 94
              with_reducible refine (tStart_yes HLow.out hl6 (HSs.out.below hS) HE.out).mono ?_
              rintro e w2 ⟨rfl, bn_r⟩
              refine hK _ _ rfl bn_r rfl (fun h => by cases h)
            · have d4 : vals 4 = _ := hd 4 (by decide +kernel)
              rw [d4]
              go_simp
              refine hK _ _ rfl (Below.refl _ _) (by first | rfl | simp) (fun h => by cases h)
           case hfin7 =>
            intro vals wr hS hP hne
            have ez_5 : vals 5 = _ := hP 5 (by decide)
            try dsimp only
            rw [ez_5]
            refine wpAny_take (i := 6) rfl (by kernel_rfl) (by kernel_rfl) (by kernel_rfl) (fun _ _ _ h => h) (.inl ⟨rfl, fun _ => rfl⟩) ?_
            simp only [Act.put, List.setIfInBounds_toArray]
            refine wpAny_take (i := 8) rfl (by kernel_rfl) (by kernel_rfl) (by kernel_rfl) (fun _ _ _ h => h) (.inl ⟨rfl, fun _ => rfl⟩) ?_
            simp only [Act.put]
            refine wpAny_take (i := 7) rfl (by kernel_rfl) (by kernel_rfl) (by kernel_rfl) (fun _ _ _ h => h) (.inl ⟨rfl, fun _ => rfl⟩) ?_
            simp only [Act.put]
            refine wpAny_take (i := 9) rfl (by kernel_rfl) (by kernel_rfl) (by kernel_rfl) (fun _ _ _ h => h) (.inl ⟨rfl, fun _ => rfl⟩) ?_
            simp only [Act.put]
            refine wpAny_done (by kernel_rfl) ?_ _
            have hr2 := hrx.below hS
            have HI_y := Lib.hid hr2.inV
            have HS2 := Lib.hid (HSs.out.below hS)
            have HF := Lib.hid (below_two HBs.out hS)
            clear hS hP hne HSs HBs hrx
            generalize wr = w2 at *
            go_wp2_with (refine wpList_loadV (by rfl) _ _ (by rfl) _ _ (by rfl) _ (by assumption) (by assumption) ?_)
            refine (tFits_c kk a b m t u p hxt hxu _ (HT.out.below HF.out) false HG.out).mono ?_
            rintro e w3 ⟨rfl, bn⟩
            have HF2 := Lib.hid (below_two HF.out bn)
            clear bn
            have HV0 : Hid (v = false) := by
             show _ = _
             rw [← HV.out]
             exact goodT_no (begT_fall HX.out HBe.out (by unfold stepB; rw [HG.out]; rfl))
            go_wp2
            go_ret
            exact ⟨by rw [HV0.out]; rfl, HF2.out⟩
         · skip
           have HG := Lib.hid hG
           clear hG
           refine region_freed 6 4 6 [27, 28, 29, 30, 31, 26] ?aF8 (fun wx => Below wS.heap.size wS wx) (fun k vv wx => match k with
            | 0 => vv = .agg (ndC kk a b m t u p)
            | 1 => vv = .slice (some ⟨q, 0, none⟩) n n
            | 2 => vv = .int .i64 (os.length : Int)
            | 3 => vv = .slice (some ⟨q, 0, none⟩) os.length n
            | 4 => vv = .tuple #[.int .i64 (s : Int), .bool true]
            | _ => vv = .tuple #[.int .i64 (s : Int), .bool true])
            (fun k => false) (by kernel_rfl) ?haF8 rfl (by kernel_rfl) (by kernel_rfl) (fun _ _ _ _ _ h => h) ?hSb8 ?hPb8 ?hS8 ?hop8 ?hfin8
           case haF8 =>
            intro vals
            simp only [fillAll, List.getElem?_cons_zero, List.getElem?_cons_succ, Act.put, List.setIfInBounds_toArray, List.set_cons_zero, List.set_cons_succ]
            exact rfl
           case hSb8 => exact fun wx w2 hb hS => below_two hS hb
           case hPb8 =>
            intro k v wa wb hb h
            match k, h with
            | 0, h => exact h
            | 1, h => exact h
            | 2, h => exact h
            | 3, h => exact h
            | 4, h => exact h
            | _ + 5, h => exact h
           case hS8 => exact (Below.refl _ _).drew
           case hop8 =>
            refine .cons (k := 0) (.plain rfl ?_) (.cons (k := 1) (.plain rfl ?_) (.cons (k := 2) (.plain rfl ?_) (.cons (k := 3) (.plain rfl ?_) (.cons (k := 4) (.plain rfl ?_) (.cons (k := 5) (.plain rfl ?_) (.nil))))))
            all_goals intro vals wr hS hd KC hK
            all_goals (show Oper.wp _ _ _ _ _ _; dsimp only)
            · refine wp_loadV 51 _ rfl _ _ rfl (ndC kk a b m t u p) (Lib.hid (hrx.below hS).inV) (Lib.hid HM_x.out) ?_
              refine hK _ _ rfl (Below.refl _ _) (by first | rfl | simp) (fun h => by cases h)
            · go_simp
              refine hK _ _ rfl (Below.refl _ _) (by first | rfl | simp) (fun h => by cases h)
            · go_simp
              refine hK _ _ rfl (Below.refl _ _) (by first | rfl | simp) (fun h => by cases h)
            · have d1 : vals 1 = _ := hd 1 (by decide +kernel)
              have d2 : vals 2 = _ := hd 2 (by decide +kernel)
              rw [d1, d2]
              go_simp
              refine hK _ _ rfl (Below.refl _ _) (by first | rfl | simp) (fun h => by cases h)
            · have d0 : vals 0 = _ := hd 0 (by decide +kernel)
              have d3 : vals 3 = _ := hd 3 (by decide +kernel)
              rw [d0, d3]
              go_simp
              go_at_call 94
              with_reducible refine (tStart_yes HLow.out hl6 (HSs.out.below hS) HE.out).mono ?_
              rintro e w2 ⟨rfl, bn_r⟩
              refine hK _ _ rfl bn_r rfl (fun h => by cases h)
            · have d4 : vals 4 = _ := hd 4 (by decide +kernel)
              rw [d4]
              go_simp
              refine hK _ _ rfl (Below.refl _ _) (by first | rfl | simp) (fun h => by cases h)
           case hfin8 =>
            intro vals wr hS hP hne
            have ez_5 : vals 5 = _ := hP 5 (by decide)
            try dsimp only
            rw [ez_5]
            refine wpAny_take (i := 6) rfl (by kernel_rfl) (by kernel_rfl) (by kernel_rfl) (fun _ _ _ h => h) (.inl ⟨rfl, fun _ => rfl⟩) ?_
            simp only [Act.put, List.setIfInBounds_toArray]
            refine wpAny_take (i := 8) rfl (by kernel_rfl) (by kernel_rfl) (by kernel_rfl) (fun _ _ _ h => h) (.inl ⟨rfl, fun _ => rfl⟩) ?_
            simp only [Act.put]
            refine wpAny_take (i := 7) rfl (by kernel_rfl) (by kernel_rfl) (by kernel_rfl) (fun _ _ _ h => h) (.inl ⟨rfl, fun _ => rfl⟩) ?_
            simp only [Act.put]
            refine wpAny_take (i := 9) rfl (by kernel_rfl) (by kernel_rfl) (by kernel_rfl) (fun _ _ _ h => h) (.inl ⟨rfl, fun _ => rfl⟩) ?_
            simp only [Act.put]
            refine wpAny_done (by kernel_rfl) ?_ _
            have hr2 := hrx.below hS
            have HI_y := Lib.hid hr2.inV
            have HS2 := Lib.hid (HSs.out.below hS)
            have HF := Lib.hid (below_two HBs.out hS)
            clear hS hP hne HSs HBs hrx
            generalize wr = w2 at *
            go_wp2_with (refine wpList_loadV (by rfl) _ _ (by rfl) _ _ (by rfl) _ (by assumption) (by assumption) ?_)
            refine (tFits_c kk a b m t u p hxt hxu _ (HT.out.below HF.out) true HG.out).mono ?_
            rintro e w3 ⟨rfl, bn⟩
            have HF2 := Lib.hid (below_two HF.out bn)
            have HS3 := Lib.hid (HS2.out.below bn)
            obtain ⟨j, hj⟩ : ∃ j, n - os.length = j + 1 := ⟨n - os.length - 1, by omega⟩
            rw [hj] at HS3
            obtain ⟨z, c1, f1⟩ := HS3.out.room
            have HS4 := Lib.hid (HS3.out.store s)
            have HB4 := Lib.hid (below_set HF2.out HQ.out os.length (.int .i64 (s : Int)))
            have HBn := Lib.hid (begT_next HX.out HBe.out (by unfold stepB; rw [HG.out]; exact HE.out))
            clear bn HS2 HF HF2
            go_wp2
            go_roundw
            case rel => exact ⟨os ++ [s], by rw [List.length_append]; first | rfl | (go_num), by rw [List.length_append]; exact hlt, by show _ = _; rw [List.length_append]; exact HBn.out, by show NuR _ _ _ _ _; rw [List.length_append, List.length_singleton, show n - (os.length + 1) = j by omega]; exact HS4.out, HB4⟩
            case measure => simp [intOf]; omega
      · skip
        obtain rfl : n = os.length := by omega
        have HBf : Hid (begT ts = some os) := by have h := HBe.out; rw [HN.out, List.take_length] at h; exact h
        obtain ⟨j, hj⟩ : ∃ j, os.length = j + 1 := ⟨os.length - 1, by omega⟩
        have cl := HS.out.cell (j := j) (by omega)
        have hv2 : v = decide (os.getD j 0 = 0) := by
         rw [← HV.out, goodT_of HBf.out (by rw [← HN.out]; omega) (by rw [← HN.out]; omega), ← HN.out, hj, Nat.add_sub_cancel]
         congr 2
         rw [List.getD_eq_getElem?_getD, List.getD_eq_getElem?_getD, List.getElem?_eq_getElem (by omega)]
         rfl
        obtain ⟨z, hz⟩ : ∃ z, os.getD j 0 = z := ⟨_, rfl⟩
        rw [hz] at cl hv2
        have ez : ((z : Int) == 0) = v := by rw [hv2, Bool.eq_iff_iff, beq_iff_eq, decide_eq_true_eq]; omega
        clear hz hv2 HS HBe
        have hw1 : (os.length : Int) - 1 = (j : Int) := by omega
        have hjl : (j : Int) < (os.length : Int) := by omega
        go_wp2
        go_ret
        exact ⟨rfl, HB.out⟩
end Go.Proofs.YtannifhcjcbkcaaGreatDoor

namespace Go.Proofs.YtannifhcjcbkcaaGreatDoor
open Go.RowKit Limb
set_option linter.unusedVariables false
set_option maxHeartbeats 4000000 in
set_option maxRecDepth 100000 in
theorem tMoved_c (kk a b n : Int) (t u : ByteArray) (p : Int) (d : Nat) (ht : t.size ≤ 1000000) (hu : u.size ≤ 1000000) (a0 : 0 ≤ a) (a1 : a ≤ 1000000) (b0 : 0 ≤ b) (b1 : b ≤ 1000000) (hd6 : d ≤ 1000000) (V : Array Value) (hV : ndV (shiftN d ⟨kk, a, b, n, t, u, p⟩) = V) (w : World) :
 Calls Tryz.prog 194 #[.agg (ndC kk a b n t u p), .int .i64 (d : Int)] w fun e w' => e = .returned (.agg V) ∧ Below w.heap.size w w' := by
 have HV := Lib.hid hV
 clear hV
 have b1 := below_new w (.cells (ndC kk a b n t u p) 51)
 have b2 := below_new (w.alloc (.cells (ndC kk a b n t u p) 51)) (.cells zN 51)
 have h_rx := (rowA_new w 51 (ndC kk a b n t u p)).below b2
 have h_rz := rowA_new (w.alloc (.cells (ndC kk a b n t u p) 51)) 51 zN
 simp only [World.size_alloc] at h_rz
 have bw := below_two b1 b2
 clear b1 b2
 go_enter Tryz.func194, Tryz.ntmps194
 go_wp2_with fail
 generalize (w.alloc (.cells (ndC kk a b n t u p) 51)).alloc (.cells zN 51) = w1 at *
 obtain ⟨q_z, ez⟩ : ∃ g, g = w.heap.size + 1 := ⟨_, rfl⟩
 obtain ⟨q_x, ex⟩ : ∃ g, g = w.heap.size := ⟨_, rfl⟩
 rw [← ez] at h_rz ⊢
 rw [← ex] at h_rx ⊢
 have hne : Hid (q_x ≠ q_z) := by show _ ≠ _; omega
 have hxx : Hid (w.heap.size ≤ q_x ∧ w.heap.size ≤ q_z) := by constructor <;> omega
 clear ez ex
 have HZ := Lib.hid h_rz
 have HX := Lib.hid h_rx
 have HB := Lib.hid bw
 clear h_rz h_rx bw
 refine region_freeR 10 [some 5, some 6, some 7, some 8, some 9, some 10, some 11, none, some 12, none] ?aF (fun wx wy => (RowA wx q_x 51 (ndC kk a b n t u p) → RowA wy q_x 51 (ndC kk a b n t u p)) ∧ (RowA wx q_z 51 zN → RowA wy q_z 51 zN) ∧ (Below w.heap.size w wx → Below w.heap.size w wy)) (fun wx => RowA wx q_x 51 (ndC kk a b n t u p) ∧ RowA wx q_z 51 zN ∧ Below w.heap.size w wx) (fun k vv wx => match k with
  | 0 => vv = .pointer (some ⟨q_x, 4, none⟩)
  | 1 => vv = .string t
  | 2 => vv = .string t
  | 3 => vv = .pointer (some ⟨q_x, 5, none⟩)
  | 4 => vv = .string u
  | 5 => vv = .string u
  | 6 => vv = .pointer (some ⟨q_x, 4, none⟩)
  | 7 => True
  | 8 => vv = .pointer (some ⟨q_x, 5, none⟩)
  | _ => True)
  (by kernel_rfl) ?haF rfl (by kernel_rfl) (fun _ _ _ _ _ h => h) ?hSb ?hPb ?hS ?hop ?hfin
 case haF =>
  intro vals
  simp only [fillAll, dAt, Act.put, List.setIfInBounds_toArray, List.set_cons_zero, List.set_cons_succ]
  exact rfl
 case hSb => exact fun wx wy h k => ⟨h.1 k.1, h.2.1 k.2.1, h.2.2 k.2.2⟩
 case hPb =>
  intro k v wa wb hb hS h
  match k, h with
  | 0, h => exact h
  | 1, h => exact h
  | 2, h => exact h
  | 3, h => exact h
  | 4, h => exact h
  | 5, h => exact h
  | 6, h => exact h
  | 7, h => exact h
  | 8, h => exact h
  | _ + 9, h => exact h
 case hS => exact ⟨HX.out, HZ.out, HB.out.drew⟩
 case hop =>
  refine .cons (k := 0) ?_ (.cons (k := 1) ?_ (.cons (k := 2) ?_ (.cons (k := 3) ?_ (.cons (k := 4) ?_ (.cons (k := 5) ?_ (.cons (k := 6) ?_ (.cons (k := 7) ?_ (.cons (k := 8) ?_ (.cons (k := 9) ?_ (.nil))))))))))
  all_goals intro vals wr hS hd KC hK
  all_goals (show Oper.wp _ _ _ _ _ _; dsimp only)
  · go_simp
    refine hK _ _ rfl ⟨fun h => h, fun h => h, fun h => h⟩ (by first | rfl | simp)
  · have d0 : vals 0 = _ := hd 0 (by decide +kernel)
    rw [d0]
    have c0 := hS.1.cell (k := 4) (v := .string t) rfl
    go_simp
    refine hK _ _ rfl ⟨fun h => h, fun h => h, fun h => h⟩ (by first | rfl | simp)
  · have d1 : vals 1 = _ := hd 1 (by decide +kernel)
    rw [d1]
    go_simp
    go_at_call 140
    with_reducible refine (sClone_c t (by omega) _).mono ?_
    rintro e w2 ⟨rfl, bn⟩
    exact hK _ _ rfl ⟨fun h => h.below bn, fun h => h.below bn, fun h => below_two h bn⟩ rfl
  · go_simp
    refine hK _ _ rfl ⟨fun h => h, fun h => h, fun h => h⟩ (by first | rfl | simp)
  · have d3 : vals 3 = _ := hd 3 (by decide +kernel)
    rw [d3]
    have c0 := hS.1.cell (k := 5) (v := .string u) rfl
    go_simp
    refine hK _ _ rfl ⟨fun h => h, fun h => h, fun h => h⟩ (by first | rfl | simp)
  · have d4 : vals 4 = _ := hd 4 (by decide +kernel)
    rw [d4]
    go_simp
    go_at_call 140
    with_reducible refine (sClone_c u (by omega) _).mono ?_
    rintro e w2 ⟨rfl, bn⟩
    exact hK _ _ rfl ⟨fun h => h.below bn, fun h => h.below bn, fun h => below_two h bn⟩ rfl
  · go_simp
    refine hK _ _ rfl ⟨fun h => h, fun h => h, fun h => h⟩ (by first | rfl | simp)
  · have d2 : vals 2 = _ := hd 2 (by decide +kernel)
    have d6 : vals 6 = _ := hd 6 (by decide +kernel)
    rw [d2, d6]
    have c0 := hS.1.cell (k := 4) (v := .string t) rfl
    have f0 := hS.1.free 4
    go_simp
    exact hK _ _ rfl ⟨fun h => h.set 4 (.string t), fun h => h.far hne.out _ _, fun h => below_set h hxx.out.1 _ _⟩ trivial
  · go_simp
    refine hK _ _ rfl ⟨fun h => h, fun h => h, fun h => h⟩ (by first | rfl | simp)
  · have d5 : vals 5 = _ := hd 5 (by decide +kernel)
    have d8 : vals 8 = _ := hd 8 (by decide +kernel)
    rw [d5, d8]
    have c0 := hS.1.cell (k := 5) (v := .string u) rfl
    have f0 := hS.1.free 5
    go_simp
    exact hK _ _ rfl ⟨fun h => h.set 5 (.string u), fun h => h.far hne.out _ _, fun h => below_set h hxx.out.1 _ _⟩ trivial
 case hfin =>
  intro vals wr hS hP
  have h_rx := hS.1
  have h_rz := hS.2.1
  have HB2 := Lib.hid hS.2.2
  clear HX HZ HB hP hS
  refine wpAny_done (by kernel_rfl) ?_ _
  try dsimp only [Act.put]
  generalize wr = w2 at *
  by_cases h3 : kk = 3
  · subst h3
    have k0 := h_rx.cell (k := 0) (v := .int .i64 3) rfl
    have k1 := h_rx.cell (k := 1) (v := .int .i64 a) rfl
    have f1 := h_rx.free 1
    have k2 := h_rx.cell (k := 2) (v := .int .i64 b) rfl
    have f2 := h_rx.free 2
    have HI_x : Hid (InV ((w2.setCell ⟨q_x, 1, none⟩ (.int .i64 (a + (d : Int)))).setCell ⟨q_x, 2, none⟩ (.int .i64 (b + (d : Int)))) q_x 0 (ndC 3 (a + (d : Int)) (b + (d : Int)) n t u p)) := RowA.inV (show RowA ((w2.setCell ⟨q_x, 1, none⟩ (.int .i64 (a + (d : Int)))).setCell ⟨q_x, 2, none⟩ (.int .i64 (b + (d : Int)))) q_x 51 (ndC 3 (a + (d : Int)) (b + (d : Int)) n t u p) from ((h_rx.set 1 (.int .i64 (a + (d : Int)))).set 2 (.int .i64 (b + (d : Int)))))
    have HM_x : Hid (Many Tryz.prog 51 (ndC 3 (a + (d : Int)) (b + (d : Int)) n t u p).size) := manyNd _ _ _ _ _ _ _
    have HZ : Hid (RowA ((w2.setCell ⟨q_x, 1, none⟩ (.int .i64 (a + (d : Int)))).setCell ⟨q_x, 2, none⟩ (.int .i64 (b + (d : Int)))) q_z 51 zN) := ((h_rz.far hne.out 1 (.int .i64 (a + (d : Int)))).far hne.out 2 (.int .i64 (b + (d : Int))))
    have HU : Hid (Many Tryz.prog 51 (ndC 3 (a + (d : Int)) (b + (d : Int)) n t u p).size ∧ zN.size = (ndC 3 (a + (d : Int)) (b + (d : Int)) n t u p).size ∧ ∀ v ∈ ndC 3 (a + (d : Int)) (b + (d : Int)) n t u p, v.oneCell' = true) := fitsNd ⟨_, _, _, _, _, _, _⟩ zNd
    have HR : Hid (RowA (((w2.setCell ⟨q_x, 1, none⟩ (.int .i64 (a + (d : Int)))).setCell ⟨q_x, 2, none⟩ (.int .i64 (b + (d : Int)))).setRow q_z (ndC 3 (a + (d : Int)) (b + (d : Int)) n t u p)) q_z 51 (ndC 3 (a + (d : Int)) (b + (d : Int)) n t u p)) := HZ.out.fill
    have HE : Hid (Below w.heap.size w (((w2.setCell ⟨q_x, 1, none⟩ (.int .i64 (a + (d : Int)))).setCell ⟨q_x, 2, none⟩ (.int .i64 (b + (d : Int)))).setRow q_z (ndC 3 (a + (d : Int)) (b + (d : Int)) n t u p))) := below_fillRow (below_set (below_set HB2.out hxx.out.1 1 (.int .i64 (a + (d : Int)))) hxx.out.1 2 (.int .i64 (b + (d : Int)))) hxx.out.2 _
    clear h_rx h_rz HB2
    go_wp2_with (first | (refine wpList_loadV (by rfl) _ _ (by rfl) _ _ (by rfl) _ (by assumption) (by assumption) ?_) | (refine wpList_storeV (by rfl) _ _ _ (by rfl) _ (by rfl) _ (by rfl) _ _ HZ HU ?_))
    refine bodyPost_ret (results_cell_row rfl _ _ _ 51 (ndC 3 (a + (d : Int)) (b + (d : Int)) n t u p) (0, 0) _ rfl HR.out Tryz.underlying51 rfl sizeNd) rfl ?_
    exact ⟨by rw [← HV.out]; rfl, HE.out⟩
  · have e3 : (kk == 3) = false := by rw [beq_eq_false_iff_ne]; exact h3
    by_cases h4 : kk = 4
    · subst h4
      have k0 := h_rx.cell (k := 0) (v := .int .i64 4) rfl
      have k1 := h_rx.cell (k := 1) (v := .int .i64 a) rfl
      have f1 := h_rx.free 1
      have k2 := h_rx.cell (k := 2) (v := .int .i64 b) rfl
      have f2 := h_rx.free 2
      have HI_x : Hid (InV ((w2.setCell ⟨q_x, 1, none⟩ (.int .i64 (a + (d : Int)))).setCell ⟨q_x, 2, none⟩ (.int .i64 (b + (d : Int)))) q_x 0 (ndC 4 (a + (d : Int)) (b + (d : Int)) n t u p)) := RowA.inV (show RowA ((w2.setCell ⟨q_x, 1, none⟩ (.int .i64 (a + (d : Int)))).setCell ⟨q_x, 2, none⟩ (.int .i64 (b + (d : Int)))) q_x 51 (ndC 4 (a + (d : Int)) (b + (d : Int)) n t u p) from ((h_rx.set 1 (.int .i64 (a + (d : Int)))).set 2 (.int .i64 (b + (d : Int)))))
      have HM_x : Hid (Many Tryz.prog 51 (ndC 4 (a + (d : Int)) (b + (d : Int)) n t u p).size) := manyNd _ _ _ _ _ _ _
      have HZ : Hid (RowA ((w2.setCell ⟨q_x, 1, none⟩ (.int .i64 (a + (d : Int)))).setCell ⟨q_x, 2, none⟩ (.int .i64 (b + (d : Int)))) q_z 51 zN) := ((h_rz.far hne.out 1 (.int .i64 (a + (d : Int)))).far hne.out 2 (.int .i64 (b + (d : Int))))
      have HU : Hid (Many Tryz.prog 51 (ndC 4 (a + (d : Int)) (b + (d : Int)) n t u p).size ∧ zN.size = (ndC 4 (a + (d : Int)) (b + (d : Int)) n t u p).size ∧ ∀ v ∈ ndC 4 (a + (d : Int)) (b + (d : Int)) n t u p, v.oneCell' = true) := fitsNd ⟨_, _, _, _, _, _, _⟩ zNd
      have HR : Hid (RowA (((w2.setCell ⟨q_x, 1, none⟩ (.int .i64 (a + (d : Int)))).setCell ⟨q_x, 2, none⟩ (.int .i64 (b + (d : Int)))).setRow q_z (ndC 4 (a + (d : Int)) (b + (d : Int)) n t u p)) q_z 51 (ndC 4 (a + (d : Int)) (b + (d : Int)) n t u p)) := HZ.out.fill
      have HE : Hid (Below w.heap.size w (((w2.setCell ⟨q_x, 1, none⟩ (.int .i64 (a + (d : Int)))).setCell ⟨q_x, 2, none⟩ (.int .i64 (b + (d : Int)))).setRow q_z (ndC 4 (a + (d : Int)) (b + (d : Int)) n t u p))) := below_fillRow (below_set (below_set HB2.out hxx.out.1 1 (.int .i64 (a + (d : Int)))) hxx.out.1 2 (.int .i64 (b + (d : Int)))) hxx.out.2 _
      clear h_rx h_rz HB2
      go_wp2_with (first | (refine wpList_loadV (by rfl) _ _ (by rfl) _ _ (by rfl) _ (by assumption) (by assumption) ?_) | (refine wpList_storeV (by rfl) _ _ _ (by rfl) _ (by rfl) _ (by rfl) _ _ HZ HU ?_))
      refine bodyPost_ret (results_cell_row rfl _ _ _ 51 (ndC 4 (a + (d : Int)) (b + (d : Int)) n t u p) (0, 0) _ rfl HR.out Tryz.underlying51 rfl sizeNd) rfl ?_
      exact ⟨by rw [← HV.out]; rfl, HE.out⟩
    · have e4 : (kk == 4) = false := by rw [beq_eq_false_iff_ne]; exact h4
      by_cases h5 : kk = 5
      · subst h5
        have k0 := h_rx.cell (k := 0) (v := .int .i64 5) rfl
        have k1 := h_rx.cell (k := 1) (v := .int .i64 a) rfl
        have f1 := h_rx.free 1
        have k2 := h_rx.cell (k := 2) (v := .int .i64 b) rfl
        have f2 := h_rx.free 2
        have HI_x : Hid (InV ((w2.setCell ⟨q_x, 1, none⟩ (.int .i64 (a + (d : Int)))).setCell ⟨q_x, 2, none⟩ (.int .i64 (b + (d : Int)))) q_x 0 (ndC 5 (a + (d : Int)) (b + (d : Int)) n t u p)) := RowA.inV (show RowA ((w2.setCell ⟨q_x, 1, none⟩ (.int .i64 (a + (d : Int)))).setCell ⟨q_x, 2, none⟩ (.int .i64 (b + (d : Int)))) q_x 51 (ndC 5 (a + (d : Int)) (b + (d : Int)) n t u p) from ((h_rx.set 1 (.int .i64 (a + (d : Int)))).set 2 (.int .i64 (b + (d : Int)))))
        have HM_x : Hid (Many Tryz.prog 51 (ndC 5 (a + (d : Int)) (b + (d : Int)) n t u p).size) := manyNd _ _ _ _ _ _ _
        have HZ : Hid (RowA ((w2.setCell ⟨q_x, 1, none⟩ (.int .i64 (a + (d : Int)))).setCell ⟨q_x, 2, none⟩ (.int .i64 (b + (d : Int)))) q_z 51 zN) := ((h_rz.far hne.out 1 (.int .i64 (a + (d : Int)))).far hne.out 2 (.int .i64 (b + (d : Int))))
        have HU : Hid (Many Tryz.prog 51 (ndC 5 (a + (d : Int)) (b + (d : Int)) n t u p).size ∧ zN.size = (ndC 5 (a + (d : Int)) (b + (d : Int)) n t u p).size ∧ ∀ v ∈ ndC 5 (a + (d : Int)) (b + (d : Int)) n t u p, v.oneCell' = true) := fitsNd ⟨_, _, _, _, _, _, _⟩ zNd
        have HR : Hid (RowA (((w2.setCell ⟨q_x, 1, none⟩ (.int .i64 (a + (d : Int)))).setCell ⟨q_x, 2, none⟩ (.int .i64 (b + (d : Int)))).setRow q_z (ndC 5 (a + (d : Int)) (b + (d : Int)) n t u p)) q_z 51 (ndC 5 (a + (d : Int)) (b + (d : Int)) n t u p)) := HZ.out.fill
        have HE : Hid (Below w.heap.size w (((w2.setCell ⟨q_x, 1, none⟩ (.int .i64 (a + (d : Int)))).setCell ⟨q_x, 2, none⟩ (.int .i64 (b + (d : Int)))).setRow q_z (ndC 5 (a + (d : Int)) (b + (d : Int)) n t u p))) := below_fillRow (below_set (below_set HB2.out hxx.out.1 1 (.int .i64 (a + (d : Int)))) hxx.out.1 2 (.int .i64 (b + (d : Int)))) hxx.out.2 _
        clear h_rx h_rz HB2
        go_wp2_with (first | (refine wpList_loadV (by rfl) _ _ (by rfl) _ _ (by rfl) _ (by assumption) (by assumption) ?_) | (refine wpList_storeV (by rfl) _ _ _ (by rfl) _ (by rfl) _ (by rfl) _ _ HZ HU ?_))
        refine bodyPost_ret (results_cell_row rfl _ _ _ 51 (ndC 5 (a + (d : Int)) (b + (d : Int)) n t u p) (0, 0) _ rfl HR.out Tryz.underlying51 rfl sizeNd) rfl ?_
        exact ⟨by rw [← HV.out]; rfl, HE.out⟩
      · have e5 : (kk == 5) = false := by rw [beq_eq_false_iff_ne]; exact h5
        by_cases h6 : kk = 6
        · subst h6
          have k0 := h_rx.cell (k := 0) (v := .int .i64 6) rfl
          have k1 := h_rx.cell (k := 1) (v := .int .i64 a) rfl
          have f1 := h_rx.free 1
          have k2 := h_rx.cell (k := 2) (v := .int .i64 b) rfl
          have f2 := h_rx.free 2
          have HI_x : Hid (InV ((w2.setCell ⟨q_x, 1, none⟩ (.int .i64 (a + (d : Int)))).setCell ⟨q_x, 2, none⟩ (.int .i64 (b + (d : Int)))) q_x 0 (ndC 6 (a + (d : Int)) (b + (d : Int)) n t u p)) := RowA.inV (show RowA ((w2.setCell ⟨q_x, 1, none⟩ (.int .i64 (a + (d : Int)))).setCell ⟨q_x, 2, none⟩ (.int .i64 (b + (d : Int)))) q_x 51 (ndC 6 (a + (d : Int)) (b + (d : Int)) n t u p) from ((h_rx.set 1 (.int .i64 (a + (d : Int)))).set 2 (.int .i64 (b + (d : Int)))))
          have HM_x : Hid (Many Tryz.prog 51 (ndC 6 (a + (d : Int)) (b + (d : Int)) n t u p).size) := manyNd _ _ _ _ _ _ _
          have HZ : Hid (RowA ((w2.setCell ⟨q_x, 1, none⟩ (.int .i64 (a + (d : Int)))).setCell ⟨q_x, 2, none⟩ (.int .i64 (b + (d : Int)))) q_z 51 zN) := ((h_rz.far hne.out 1 (.int .i64 (a + (d : Int)))).far hne.out 2 (.int .i64 (b + (d : Int))))
          have HU : Hid (Many Tryz.prog 51 (ndC 6 (a + (d : Int)) (b + (d : Int)) n t u p).size ∧ zN.size = (ndC 6 (a + (d : Int)) (b + (d : Int)) n t u p).size ∧ ∀ v ∈ ndC 6 (a + (d : Int)) (b + (d : Int)) n t u p, v.oneCell' = true) := fitsNd ⟨_, _, _, _, _, _, _⟩ zNd
          have HR : Hid (RowA (((w2.setCell ⟨q_x, 1, none⟩ (.int .i64 (a + (d : Int)))).setCell ⟨q_x, 2, none⟩ (.int .i64 (b + (d : Int)))).setRow q_z (ndC 6 (a + (d : Int)) (b + (d : Int)) n t u p)) q_z 51 (ndC 6 (a + (d : Int)) (b + (d : Int)) n t u p)) := HZ.out.fill
          have HE : Hid (Below w.heap.size w (((w2.setCell ⟨q_x, 1, none⟩ (.int .i64 (a + (d : Int)))).setCell ⟨q_x, 2, none⟩ (.int .i64 (b + (d : Int)))).setRow q_z (ndC 6 (a + (d : Int)) (b + (d : Int)) n t u p))) := below_fillRow (below_set (below_set HB2.out hxx.out.1 1 (.int .i64 (a + (d : Int)))) hxx.out.1 2 (.int .i64 (b + (d : Int)))) hxx.out.2 _
          clear h_rx h_rz HB2
          go_wp2_with (first | (refine wpList_loadV (by rfl) _ _ (by rfl) _ _ (by rfl) _ (by assumption) (by assumption) ?_) | (refine wpList_storeV (by rfl) _ _ _ (by rfl) _ (by rfl) _ (by rfl) _ _ HZ HU ?_))
          refine bodyPost_ret (results_cell_row rfl _ _ _ 51 (ndC 6 (a + (d : Int)) (b + (d : Int)) n t u p) (0, 0) _ rfl HR.out Tryz.underlying51 rfl sizeNd) rfl ?_
          exact ⟨by rw [← HV.out]; rfl, HE.out⟩
        · have e6 : (kk == 6) = false := by rw [beq_eq_false_iff_ne]; exact h6
          by_cases h7 : kk = 7
          · subst h7
            have k0 := h_rx.cell (k := 0) (v := .int .i64 7) rfl
            have k1 := h_rx.cell (k := 1) (v := .int .i64 a) rfl
            have f1 := h_rx.free 1
            have HI_x : Hid (InV (w2.setCell ⟨q_x, 1, none⟩ (.int .i64 (a + (d : Int)))) q_x 0 (ndC 7 (a + (d : Int)) b n t u p)) := RowA.inV (show RowA (w2.setCell ⟨q_x, 1, none⟩ (.int .i64 (a + (d : Int)))) q_x 51 (ndC 7 (a + (d : Int)) b n t u p) from (h_rx.set 1 (.int .i64 (a + (d : Int)))))
            have HM_x : Hid (Many Tryz.prog 51 (ndC 7 (a + (d : Int)) b n t u p).size) := manyNd _ _ _ _ _ _ _
            have HZ : Hid (RowA (w2.setCell ⟨q_x, 1, none⟩ (.int .i64 (a + (d : Int)))) q_z 51 zN) := (h_rz.far hne.out 1 (.int .i64 (a + (d : Int))))
            have HU : Hid (Many Tryz.prog 51 (ndC 7 (a + (d : Int)) b n t u p).size ∧ zN.size = (ndC 7 (a + (d : Int)) b n t u p).size ∧ ∀ v ∈ ndC 7 (a + (d : Int)) b n t u p, v.oneCell' = true) := fitsNd ⟨_, _, _, _, _, _, _⟩ zNd
            have HR : Hid (RowA ((w2.setCell ⟨q_x, 1, none⟩ (.int .i64 (a + (d : Int)))).setRow q_z (ndC 7 (a + (d : Int)) b n t u p)) q_z 51 (ndC 7 (a + (d : Int)) b n t u p)) := HZ.out.fill
            have HE : Hid (Below w.heap.size w ((w2.setCell ⟨q_x, 1, none⟩ (.int .i64 (a + (d : Int)))).setRow q_z (ndC 7 (a + (d : Int)) b n t u p))) := below_fillRow (below_set HB2.out hxx.out.1 1 (.int .i64 (a + (d : Int)))) hxx.out.2 _
            clear h_rx h_rz HB2
            go_wp2_with (first | (refine wpList_loadV (by rfl) _ _ (by rfl) _ _ (by rfl) _ (by assumption) (by assumption) ?_) | (refine wpList_storeV (by rfl) _ _ _ (by rfl) _ (by rfl) _ (by rfl) _ _ HZ HU ?_))
            refine bodyPost_ret (results_cell_row rfl _ _ _ 51 (ndC 7 (a + (d : Int)) b n t u p) (0, 0) _ rfl HR.out Tryz.underlying51 rfl sizeNd) rfl ?_
            exact ⟨by rw [← HV.out]; rfl, HE.out⟩
          · have e7 : (kk == 7) = false := by rw [beq_eq_false_iff_ne]; exact h7
            by_cases h8 : kk = 8
            · subst h8
              have k0 := h_rx.cell (k := 0) (v := .int .i64 8) rfl
              have k1 := h_rx.cell (k := 1) (v := .int .i64 a) rfl
              have f1 := h_rx.free 1
              have HI_x : Hid (InV (w2.setCell ⟨q_x, 1, none⟩ (.int .i64 (a + (d : Int)))) q_x 0 (ndC 8 (a + (d : Int)) b n t u p)) := RowA.inV (show RowA (w2.setCell ⟨q_x, 1, none⟩ (.int .i64 (a + (d : Int)))) q_x 51 (ndC 8 (a + (d : Int)) b n t u p) from (h_rx.set 1 (.int .i64 (a + (d : Int)))))
              have HM_x : Hid (Many Tryz.prog 51 (ndC 8 (a + (d : Int)) b n t u p).size) := manyNd _ _ _ _ _ _ _
              have HZ : Hid (RowA (w2.setCell ⟨q_x, 1, none⟩ (.int .i64 (a + (d : Int)))) q_z 51 zN) := (h_rz.far hne.out 1 (.int .i64 (a + (d : Int))))
              have HU : Hid (Many Tryz.prog 51 (ndC 8 (a + (d : Int)) b n t u p).size ∧ zN.size = (ndC 8 (a + (d : Int)) b n t u p).size ∧ ∀ v ∈ ndC 8 (a + (d : Int)) b n t u p, v.oneCell' = true) := fitsNd ⟨_, _, _, _, _, _, _⟩ zNd
              have HR : Hid (RowA ((w2.setCell ⟨q_x, 1, none⟩ (.int .i64 (a + (d : Int)))).setRow q_z (ndC 8 (a + (d : Int)) b n t u p)) q_z 51 (ndC 8 (a + (d : Int)) b n t u p)) := HZ.out.fill
              have HE : Hid (Below w.heap.size w ((w2.setCell ⟨q_x, 1, none⟩ (.int .i64 (a + (d : Int)))).setRow q_z (ndC 8 (a + (d : Int)) b n t u p))) := below_fillRow (below_set HB2.out hxx.out.1 1 (.int .i64 (a + (d : Int)))) hxx.out.2 _
              clear h_rx h_rz HB2
              go_wp2_with (first | (refine wpList_loadV (by rfl) _ _ (by rfl) _ _ (by rfl) _ (by assumption) (by assumption) ?_) | (refine wpList_storeV (by rfl) _ _ _ (by rfl) _ (by rfl) _ (by rfl) _ _ HZ HU ?_))
              refine bodyPost_ret (results_cell_row rfl _ _ _ 51 (ndC 8 (a + (d : Int)) b n t u p) (0, 0) _ rfl HR.out Tryz.underlying51 rfl sizeNd) rfl ?_
              exact ⟨by rw [← HV.out]; rfl, HE.out⟩
            · have e8 : (kk == 8) = false := by rw [beq_eq_false_iff_ne]; exact h8
              have k0 := h_rx.cell (k := 0) (v := .int .i64 kk) rfl
              have HI_x : Hid (InV w2 q_x 0 (ndC kk a b n t u p)) := RowA.inV (show RowA w2 q_x 51 (ndC kk a b n t u p) from h_rx)
              have HM_x : Hid (Many Tryz.prog 51 (ndC kk a b n t u p).size) := manyNd _ _ _ _ _ _ _
              have HZ : Hid (RowA w2 q_z 51 zN) := h_rz
              have HU : Hid (Many Tryz.prog 51 (ndC kk a b n t u p).size ∧ zN.size = (ndC kk a b n t u p).size ∧ ∀ v ∈ ndC kk a b n t u p, v.oneCell' = true) := fitsNd ⟨kk, a, b, n, t, u, p⟩ zNd
              have HR : Hid (RowA (w2.setRow q_z (ndC kk a b n t u p)) q_z 51 (ndC kk a b n t u p)) := HZ.out.fill
              have HE : Hid (Below w.heap.size w (w2.setRow q_z (ndC kk a b n t u p))) := below_fillRow HB2.out hxx.out.2 _
              have HVe : Hid (V = ndC kk a b n t u p) := by show _ = _; rw [← HV.out, shiftN_leaf (by rw [Bool.eq_false_iff]; exact two_no h3 h4 h5 h6) (by rw [Bool.eq_false_iff]; intro e; have h78 : kk = 7 ∨ kk = 8 := oneK_iff.1 e; omega)]; rfl
              clear h_rx h_rz HB2
              go_wp2_with (first | (refine wpList_loadV (by rfl) _ _ (by rfl) _ _ (by rfl) _ (by assumption) (by assumption) ?_) | (refine wpList_storeV (by rfl) _ _ _ (by rfl) _ (by rfl) _ (by rfl) _ _ HZ HU ?_))
              refine bodyPost_ret (results_cell_row rfl _ _ _ 51 (ndC kk a b n t u p) (0, 0) _ rfl HR.out Tryz.underlying51 rfl sizeNd) rfl ?_
              exact ⟨by rw [HVe.out], HE.out⟩
end Go.Proofs.YtannifhcjcbkcaaGreatDoor

namespace Go.Proofs.YtannifhcjcbkcaaGreatDoor
open Go.RowKit Limb
set_option linter.unusedVariables false
def layL (L : List Nd) (k : Nat) (ts : List Nd) : List Nd := L.take k ++ (ts ++ L.drop (k + ts.length))
theorem ndCells_get : ∀ {ts : List Nd} {j : Nat} {v : Value}, (ndCells ts)[j]? = some v → ∃ (i r : Nat) (x : Nd), j = i * 7 + r ∧ ts[i]? = some x ∧ (ndV x)[r]? = some v
 | [], j, v, h => by simp [ndCells] at h
 | y :: ts, j, v, h => by
  have e : ndCells (y :: ts) = (ndV y).toList ++ ndCells ts := rfl
  rw [e] at h
  have hl : (ndV y).toList.length = 7 := rfl
  rcases Nat.lt_or_ge j 7 with h1 | h1
  · rw [List.getElem?_append_left (by rw [hl]; exact h1)] at h
    exact ⟨0, j, y, by omega, rfl, by simpa using h⟩
  · rw [List.getElem?_append_right (by rw [hl]; exact h1), hl] at h
    obtain ⟨i, r, x, h2, h3, h4⟩ := ndCells_get h
    exact ⟨i + 1, r, x, by omega, by simpa using h3, h4⟩
theorem ndCells_take (ts : List Nd) (k : Nat) : (ndCells ts).take (k * 7) = ndCells (ts.take k) := by
 induction ts generalizing k with
 | nil => simp [ndCells]
 | cons y ts ih =>
  cases k with
  | zero => simp [ndCells]
  | succ k =>
   show ((ndV y).toList ++ ndCells ts).take ((k + 1) * 7) = (ndV y).toList ++ ndCells (ts.take k)
   rw [← ih, List.take_append, show (ndV y).toList.length = 7 from rfl, show (k + 1) * 7 - 7 = k * 7 by omega, List.take_of_length_le (by show 7 ≤ _; omega)]
theorem ndCells_drop (ts : List Nd) (k : Nat) : (ndCells ts).drop (k * 7) = ndCells (ts.drop k) := by
 induction ts generalizing k with
 | nil => simp [ndCells]
 | cons y ts ih =>
  cases k with
  | zero => simp [ndCells]
  | succ k =>
   show ((ndV y).toList ++ ndCells ts).drop ((k + 1) * 7) = ndCells (ts.drop k)
   rw [← ih, List.drop_append, show (ndV y).toList.length = 7 from rfl, show (k + 1) * 7 - 7 = k * 7 by omega, List.drop_of_length_le (by show 7 ≤ _; omega), List.nil_append]
theorem ndCells_lay (L ts : List Nd) (k : Nat) : (ndCells L).take (k * 7) ++ (ndCells ts ++ (ndCells L).drop (k * 7 + (ndCells ts).length)) = ndCells (layL L k ts) := by
 rw [len_ndCells, ← Nat.add_mul, ndCells_take, ndCells_drop]
 unfold layL
 rw [ndCells_app, ndCells_app]
theorem set_lay {L : List Nd} {i : Nat} (h : i < L.length) (y : Nd) : layL L i [y] = L.set i y := by
 unfold layL
 rw [List.set_eq_take_append_cons_drop, if_pos h]
 rfl
def NdR (w : World) (g : Nat) (L : List Nd) : Prop := RowA w g 51 (ndCells L).toArray
theorem NdR.inV {w : World} {g : Nat} {L : List Nd} (h : NdR w g L) {i : Nat} {x : Nd} (hx : L[i]? = some x) : InV w g (i * 7) (ndV x) :=
 RowA.part h fun j v hv => by rw [List.getElem?_toArray]; exact ndCells_at hx j v hv
theorem NdR.tree {w : World} {g : Nat} {L : List Nd} (h : NdR w g L) (hm : L.length ≤ maxLen) : TreR w (some ⟨g, 0, none⟩) L.length L.length L :=
 ⟨rfl, Nat.le_refl _, hm, fun _ => ⟨g, 0, rfl, RowA.lt h, fun i x hx => by rw [Nat.zero_add]; exact h.inV hx⟩⟩
theorem NdR.below {w w' : World} {g : Nat} {L : List Nd} (h : NdR w g L) (hb : Below w.heap.size w w') : NdR w' g L := RowA.below h hb
theorem NdR.setCells {w : World} {g : Nat} {L : List Nd} (h : NdR w g L) {i : Nat} (hi : i < L.length) (y : Nd) : NdR (w.setRow g ((ndCells L).take (i * 7) ++ ((ndV y).toList ++ (ndCells L).drop (i * 7 + (ndV y).toList.length))).toArray) g (L.set i y) := by
 have e := ndCells_lay L [y] i
 rw [set_lay hi] at e
 unfold NdR
 rw [← e]
 have e2 : ndCells [y] = (ndV y).toList := by simp [ndCells]
 rw [e2]
 exact RowA.fill h
section
variable {ops : Array Oper} {rest : List Oper} {o : Oper} {a : Act} {w : World} {Q : Exit → Act → World → Prop}
set_option maxRecDepth 10000 in
/-- A store of one node into a row of nodes. -/
theorem wpList_storeNd (hg : Region.wanted o (yielded ops a.tmps) = true) (x y : Operand) (ho : o.op = .store 51 x y) (g off : Nat) (hx : a.eval x = .pointer (some ⟨g, off, none⟩)) (V : Array Value) (hy : a.eval y = .agg V) (z : Nd) (L : List Nd) (i : Nat) (hc : Hid (NdR w g L ∧ V = ndV z ∧ off = i * 7 ∧ i < L.length))
 (h : ∀ w', Hid (NdR w' g (L.set i z)) → Hid (∀ B w0, B ≤ g → Below B w0 w → Below B w0 w') → wpList Tryz.prog ops Q rest (a.put o.dst undef) w') : wpList Tryz.prog ops Q (o :: rest) a w :=
 BigFrame.wpList_want hg fun K hK => by
  obtain ⟨h1, rfl, rfl, hi⟩ := hc.out
  have hl := len_ndCells L
  have hs := run_storeCells_at Tryz.prog g (i * 7) 51 (ndV z).toList 0 (ndCells L).toArray w h1 (by simp [hl, ndV]; omega) (fun v hv => ndV_one z v (by simpa using hv))
  have hr : (Instr.storeAt 51 (.pointer (some ⟨g, i * 7, none⟩)) (.agg (ndV z))).run Tryz.prog w = .ok () (w.setRow g ((ndCells L).take (i * 7) ++ ((ndV z).toList ++ (ndCells L).drop (i * 7 + (ndV z).toList.length))).toArray) := by
   have hi7 := sizeNd
   cases hq : Tryz.prog.info? 51 with
   | none => rw [hq] at hi7; cases hi7
   | some i7 =>
    have hs7 : (ndV z).size = i7.size := by rw [hq] at hi7; injection hi7 with hi7; exact hi7.symm
    simp only [Nat.add_zero, List.append_assoc] at hs
    simp [Instr.storeAt, Instr.sureAddr, storeVar, sizeOf, typeInfo, hq, Value.cells, hs7, hs]
  unfold Oper.wp execOp
  simp only [ho, hx, hy, hr, Sem.run_bind, Sem.run_pure, Result.andThen_ok]
  exact hK _ _ (h _ (h1.setCells hi z) (fun B w0 hB hb => below_setRow hb hB _))
theorem wpList_copy_nd (hgd : o.guard = none) (d s : Operand) (ho : o.op = .call { callee := .builtin .copy, args := #[d, s], argTypes := #[33, 33] })
 (g off dLen dCap : Nat) (sp : Option Addr) (sLen sCap : Nat) (hd : a.eval d = .slice (some ⟨g, off, none⟩) dLen dCap) (hs : a.eval s = .slice sp sLen sCap)
 (L ts : List Nd) (k : Nat) (hown : Hid (NdR w g L)) (hy : Hid (TreR w sp sLen sCap ts)) (hlen : Hid (0 < sLen ∧ sLen ≤ dLen ∧ off = k * 7 ∧ k + sLen ≤ L.length))
 (h : ∀ w', Hid (NdR w' g (layL L k ts)) → Hid (∀ B w0, B ≤ g → Below B w0 w → Below B w0 w') → wpList Tryz.prog ops Q rest (a.put o.dst (goInt sLen)) w') : wpList Tryz.prog ops Q (o :: rest) a w := by
 obtain ⟨l0, l1, rfl, l2⟩ := hlen.out
 obtain ⟨y1, y2, y3, y4⟩ := hy.out
 obtain ⟨gs, os, rfl, hgs, hin⟩ := y4 l0
 have hcl := len_ndCells ts
 have hLl := len_ndCells L
 refine wpList_plain hgd fun K hK => ?_
 have hsrc : ∀ j v, (ndCells ts)[j]? = some v → w.cell? ((⟨gs, os, none⟩ : Addr).add j) = some v := by
  intro j v hv
  obtain ⟨i, r, x, rfl, hx, hr⟩ := ndCells_get hv
  rw [Addr.add_mid, ← Nat.add_assoc]
  exact hin i x hx r v hr
 have hl := run_loadCells_list (P := Tryz.prog) w ⟨gs, os, none⟩ (ndCells ts) hsrc
 have hst := run_storeCells_at Tryz.prog g (k * 7) 51 (ndCells ts) 0 (ndCells L).toArray w hown.out (by simp [hLl, hcl]; omega) (ndCells_one ts)
 simp only [Nat.add_zero, List.append_assoc] at hst
 have hrun : (Builtin.copy_ #[33, 33] o.type #[.slice (some ⟨g, k * 7, none⟩) dLen dCap, .slice (some ⟨gs, os, none⟩) sLen sCap]).run Tryz.prog w = .ok (goInt sLen) (w.setRow g ((ndCells L).take (k * 7) ++ (ndCells ts ++ (ndCells L).drop (k * 7 + (ndCells ts).length))).toArray) := by
  have hi7 := sizeNd
  cases hq : Tryz.prog.info? 51 with
  | none => rw [hq] at hi7; cases hi7
  | some i7 =>
   have hs7 : i7.size = 7 := by rw [hq] at hi7; injection hi7
   have hmin : Nat.min sLen dLen = sLen := Nat.min_eq_left l1
   have hn7 : sLen * 7 = (ndCells ts).length := by rw [hcl, y1]
   simp [Builtin.copy_, run_underlying Tryz.underlying33, Builtin.lenOf, Builtin.firstCells, sizeOf, typeInfo, hq, hs7, hmin, hn7, hl, hst]
 unfold Oper.wp
 simp [execOp, ho, resolve, invoke, builtin, hd, hs, hrun, Result.andThen]
 refine hK _ _ (h _ ?_ (fun B w0 hB hb => below_setRow hb hB _))
 show RowA _ _ _ _
 rw [← ndCells_lay]
 exact RowA.fill hown.out
end
theorem made_nd (W : World) (n : Nat) (hn : n ≤ 1000000) : (Instr.makeSlice 33 (.int .i64 (n : Int)) (.int .i64 (n : Int))).run Tryz.prog W = .ok (.slice (some ⟨W.heap.size, 0, none⟩) n n) (W.alloc (.cells (ndCells (List.replicate n zNd)).toArray 51)) := by
 obtain ⟨i0, z, h1, h2, h3, h4, h5, h6, h7⟩ := nds_elem
 have hz : z = .agg zN := by
  have : (Tryz.prog.info? 51).map (·.zero) = some (some (.agg zN)) := by kernel_rfl
  rw [h2] at this
  simp [h3] at this
  exact this
 have hb : (i0.bytes : Int) * (n : Int) ≤ 1000000000 := by
  have : i0.bytes * n ≤ 1000 * 1000000 := Nat.mul_le_mul h7 hn
  have e : (i0.bytes : Int) * (n : Int) = ((i0.bytes * n : Nat) : Int) := by simp
  rw [e]; omega
 have h := run_make (P := Tryz.prog) W 33 51 i0 z h1 h2 h3 .i64 .i64 (n : Int) (n : Int) (by omega) (by omega) (by omega) (by omega)
 rw [h4, hz, Int.toNat_natCast] at h
 have e : madeCells (Value.agg zN).cells (n * 7) = (ndCells (List.replicate n zNd)).toArray := by
  apply Array.toList_inj.1
  rw [List.toList_toArray]
  apply List.ext_getElem?
  intro j
  have hl : (ndCells (List.replicate n zNd)).length = n * 7 := by rw [len_ndCells, List.length_replicate]
  by_cases hj : j < n * 7
  · have hz7 : (ndV zNd)[j % 7]? = some ((ndV zNd)[j % 7]'(by show j % 7 < 7; omega)) := Array.getElem?_eq_getElem _
    have h9 := ndCells_at (ts := List.replicate n zNd) (i := j / 7) (x := zNd) (by rw [List.getElem?_replicate, if_pos (by omega)]) (j % 7) _ hz7
    rw [show j / 7 * 7 + j % 7 = j by omega] at h9
    rw [h9]
    show (madeCells zN (n * 7)).toList[j]? = _
    have key : ∀ r (hr : r < 7), (zN.toList[r]?.getD default) = (ndV zNd)[r]'hr := by
     intro r hr
     match r, hr with
     | 0, _ => rfl
     | 1, _ => rfl
     | 2, _ => rfl
     | 3, _ => rfl
     | 4, _ => rfl
     | 5, _ => rfl
     | 6, _ => rfl
     | r + 7, h => omega
    unfold madeCells
    simp [hj]
    exact key _ (by omega)
  · rw [List.getElem?_eq_none (by show (madeCells zN (n * 7)).toList.length ≤ j; rw [Array.length_toList, size_madeCells]; omega), List.getElem?_eq_none (by rw [hl]; omega)]
 rw [e] at h
 exact h
end Go.Proofs.YtannifhcjcbkcaaGreatDoor

namespace Go.Proofs.YtannifhcjcbkcaaGreatDoor
open Go.RowKit Limb
set_option linter.unusedVariables false
def Fair (x : Nd) : Prop := x.t.size ≤ 1000000 ∧ x.u.size ≤ 1000000 ∧ 0 ≤ x.a ∧ x.a ≤ 1000000 ∧ 0 ≤ x.b ∧ x.b ≤ 1000000
def mixL (L : List Nd) (k d : Nat) (ts : List Nd) (i : Nat) : List Nd := layL L k ((ts.take i).map (shiftN d) ++ ts.drop i)
theorem lay_step {L ts : List Nd} {d k i : Nat} {x : Nd} (hx : ts[i]? = some x) (hk : k + ts.length ≤ L.length) : (mixL L k d ts i).set (k + i) (shiftN d x) = mixL L k d ts (i + 1) := by
 unfold mixL
 have hi := (List.getElem?_eq_some_iff.1 hx).1
 have hxe := (List.getElem?_eq_some_iff.1 hx).2
 have h1 : (L.take k).length = k := by rw [List.length_take]; omega
 have h2 : ((ts.take i).map (shiftN d)).length = i := by simp; omega
 have hl1 : ((ts.take i).map (shiftN d) ++ ts.drop i).length = ts.length := by simp; omega
 have hl2 : ((ts.take (i + 1)).map (shiftN d) ++ ts.drop (i + 1)).length = ts.length := by simp; omega
 unfold layL
 rw [hl1, hl2, List.set_append_right (h := by rw [h1]; omega), h1, Nat.add_sub_cancel_left, List.append_assoc, List.set_append_right (h := by rw [h2]; exact Nat.le_refl _), h2, Nat.sub_self, List.drop_eq_getElem_cons hi, List.cons_append, List.set_cons_zero, List.take_add_one, hx]
 simp
theorem lay_at {L ts : List Nd} {d k i : Nat} {x : Nd} (hx : ts[i]? = some x) (hk : k + ts.length ≤ L.length) : (mixL L k d ts i)[k + i]? = some x := by
 unfold mixL
 have hi := (List.getElem?_eq_some_iff.1 hx).1
 have h1 : (L.take k).length = k := by rw [List.length_take]; omega
 have h2 : ((ts.take i).map (shiftN d)).length = i := by simp; omega
 unfold layL
 rw [List.getElem?_append_right (by rw [h1]; omega), h1, Nat.add_sub_cancel_left, List.append_assoc, List.getElem?_append_right (by rw [h2]; exact Nat.le_refl _), h2, Nat.sub_self, List.drop_eq_getElem_cons hi]
 rw [List.cons_append, List.getElem?_cons_zero, (List.getElem?_eq_some_iff.1 hx).2]
theorem len_mix {L ts : List Nd} {k d i : Nat} (h : k + ts.length ≤ L.length) (hi : i ≤ ts.length) : (mixL L k d ts i).length = L.length := by unfold mixL layL; simp; omega
theorem mix_start (L : List Nd) (k d : Nat) (ts : List Nd) : mixL L k d ts 0 = layL L k ts := by simp [mixL]
theorem mix_end (L : List Nd) (k d : Nat) (ts : List Nd) : mixL L k d ts ts.length = layL L k (ts.map (shiftN d)) := by simp [mixL]
set_option maxHeartbeats 4000000 in
set_option maxRecDepth 100000 in
theorem tLay_c {w : World} {g k rl rc d : Nat} {L0 : List Nd} (hr : NdR w g L0) (hrl : rl ≤ rc) (hrc : rc ≤ 1000000) {A : Option Addr} {n c : Nat} {ts : List Nd} (h : TreR w A n c ts) (h0 : 0 < n) (hn6 : n ≤ rl) (hk : k + n ≤ L0.length) (hd6 : d ≤ 1000000) (hf : ∀ x ∈ ts, Fair x) {D : Int} (hD : D = (d : Int)) :
 Calls Tryz.prog 174 #[.slice (some ⟨g, k * 7, none⟩) rl rc, .slice A n c, .int .i64 D] w fun e w' => e = .returned (.tuple #[]) ∧ NdR w' g (layL L0 k (ts.map (shiftN d))) ∧ Below g w w' := by
 subst hD
 obtain ⟨hn, hc, hcm, _⟩ := id h
 have HO := Lib.hid hr
 have HY := Lib.hid h
 have HL : Hid (0 < n ∧ n ≤ rl ∧ k * 7 = k * 7 ∧ k + n ≤ L0.length) := ⟨h0, hn6, rfl, hk⟩
 have HN := Lib.hid hn
 have HF := Lib.hid hf
 have HK : Hid (k + ts.length ≤ L0.length) := by show _ ≤ _; rw [← hn]; exact hk
 clear h hr hn hf hk
 go_enter Tryz.func174, Tryz.ntmps174
 go_wp2_with (refine wpList_copy_nd rfl _ _ rfl g (k * 7) rl rc A n c rfl rfl L0 ts k HO HY HL ?_)
 intro w1 HO1 HB1
 have HB2 := Lib.hid (HB1.out g w (Nat.le_refl _) (Below.refl _ _))
 have HO2 : Hid (NdR w1 g (mixL L0 k d ts 0)) := by show NdR _ _ _; rw [mix_start]; exact HO1.out
 clear HB1 HO1 HO HY
 go_wp2
 go_loopw [16] (fun i wr => ∃ i0 : Nat, i = .int .i64 (i0 : Int) ∧ i0 ≤ n ∧ Hid (NdR wr g (mixL L0 k d ts i0)) ∧ Hid (Below g w wr)) (fun i _ => n - (intOf i).toNat)
 case atStart => exact ⟨0, rfl, Nat.zero_le _, HO2, HB2⟩
 case round =>
  obtain ⟨i, rfl, hi, HO3, HB3⟩ := hrel
  by_cases hlt : i < n
  · skip
    obtain ⟨x, hx⟩ : ∃ x, ts[i]? = some x := ⟨_, List.getElem?_eq_getElem (by rw [← HN.out]; exact hlt)⟩
    have HX := Lib.hid hx
    have hin := HO3.out.inV (lay_at (d := d) hx HK.out)
    obtain ⟨ft, fu, fa0, fa1, fb0, fb1⟩ := HF.out x (List.mem_of_getElem? hx)
    obtain ⟨k1, a1, b1, m1, t1, u1, p1⟩ := x
    dsimp only at ft fu fa0 fa1 fb0 fb1
    obtain ⟨V, hV⟩ : ∃ V, ndV (shiftN d ⟨k1, a1, b1, m1, t1, u1, p1⟩) = V := ⟨_, rfl⟩
    have HV := Lib.hid hV
    have HI_x : Hid (InV wr g (k * 7 + i * 7) (ndC k1 a1 b1 m1 t1 u1 p1)) := by rw [← Nat.add_mul]; exact hin
    have HM_x := Lib.hid (manyNd k1 a1 b1 m1 t1 u1 p1)
    have HU_x : Hid (Many Tryz.prog 51 (ndC k1 a1 b1 m1 t1 u1 p1).size ∧ zN.size = (ndC k1 a1 b1 m1 t1 u1 p1).size ∧ ∀ v ∈ ndC k1 a1 b1 m1 t1 u1 p1, v.oneCell' = true) := fitsNd ⟨k1, a1, b1, m1, t1, u1, p1⟩ zNd
    have bn := below_new wr (.cells (ndC k1 a1 b1 m1 t1 u1 p1) 51)
    have hgl := RowA.lt HO3.out
    have HO4 := Lib.hid (HO3.out.below bn)
    have HB4 := Lib.hid (HB3.out.trans (bn.mono (Nat.le_of_lt hgl)))
    have HI_y : Hid (InV (wr.alloc (.cells (ndC k1 a1 b1 m1 t1 u1 p1) 51)) wr.heap.size 0 (ndC k1 a1 b1 m1 t1 u1 p1)) := (rowA_new wr 51 (ndC k1 a1 b1 m1 t1 u1 p1)).inV
    have Hgl := Lib.hid hgl
    clear hx hin bn HO3 HB3 hV hgl
    go_wp2_with (first | (refine wpList_loadV (by rfl) _ _ (by rfl) _ _ (by rfl) _ (by assumption) (by assumption) ?_) | (refine wpList_storeNew (by rfl) _ _ _ (by rfl) _ _ _ (by rfl) (by rfl) (by assumption) ?_))
    refine (tMoved_c k1 a1 b1 m1 t1 u1 p1 d ft fu fa0 fa1 fb0 fb1 hd6 V HV.out _).mono ?_
    rintro e w3 ⟨rfl, bn⟩
    have HO5 := HO4.out.below bn
    have HB5 := Lib.hid (HB4.out.trans (bn.mono (by have := Hgl.out; simp; omega)))
    have HC : Hid (NdR w3 g (mixL L0 k d ts i) ∧ V = ndV (shiftN d ⟨k1, a1, b1, m1, t1, u1, p1⟩) ∧ k * 7 + i * 7 = (k + i) * 7 ∧ k + i < (mixL L0 k d ts i).length) := ⟨HO5, HV.out.symm, by omega, by rw [len_mix HK.out (by rw [← HN.out]; exact hi)]; have := HL.out.2.2.2; omega⟩
    clear bn HO4 HB4 HO5 HI_x HI_y HU_x
    go_wp2_with (refine wpList_storeNd (by rfl) _ _ (by rfl) g (k * 7 + i * 7) (by rfl) V (by rfl) _ _ (k + i) HC ?_)
    intro w4 HO6 HB6
    have HB7 := Lib.hid (HB6.out g w (Nat.le_refl _) HB5.out)
    have HO7 : Hid (NdR w4 g (mixL L0 k d ts (i + 1))) := by show NdR _ _ _; rw [← lay_step HX.out HK.out]; exact HO6.out
    clear HO6 HB6 HC HB5
    go_wp2
    exact ⟨⟨i + 1, by go_num, hlt, HO7, HB7⟩, by simp [intOf]; omega⟩
  · obtain rfl : i = n := by omega
    have HOf : Hid (NdR wr g (layL L0 k (ts.map (shiftN d)))) := by
     have h := HO3.out
     rw [HN.out, mix_end] at h
     exact h
    go_wp2
    go_end0
    exact ⟨rfl, HOf.out, HB3.out⟩
end Go.Proofs.YtannifhcjcbkcaaGreatDoor

namespace Go.Proofs.YtannifhcjcbkcaaGreatDoor
open Go.RowKit Limb
set_option linter.unusedVariables false
theorem step_at {ts : List Nd} {o : List Nat} (h : begT ts = some o) {k : Nat} {x : Nd} (hx : ts[k]? = some x) : ∃ s, stepB (o.take k) x = some s ∧ (o.take k).length = k := by
 have hk := (List.getElem?_eq_some_iff.1 hx).1
 have h1 := begT_take h k
 cases hs : stepB (o.take k) x with
 | none => rw [begT_fall hx h1 hs] at h; cases h
 | some s => exact ⟨s, rfl, by rw [List.length_take, begT_len h]; omega⟩
end Go.Proofs.YtannifhcjcbkcaaGreatDoor

namespace Go.Proofs.YtannifhcjcbkcaaGreatDoor
open Go.RowKit Limb
set_option linter.unusedVariables false
theorem fair_good {ts : List Nd} (hg : goodT ts = true) (hm : Mild ts) : ∀ x ∈ ts, Fair x := by
 intro x hx
 obtain ⟨i, hi, rfl⟩ := List.mem_iff_getElem.1 hx
 obtain ⟨g1, g2, o, hb, hl, hlo, _⟩ := good_all hg
 have hxe : ts[i]? = some ts[i] := List.getElem?_eq_getElem hi
 obtain ⟨s, hs, hol⟩ := step_at hb hxe
 obtain ⟨hf, hc⟩ := stepB_cases hs
 obtain ⟨h1, h2⟩ := hm.at hxe
 have hlo2 := begT_low (begT_take hb i)
 refine ⟨h1, h2, ?_⟩
 generalize ts[i] = y at *
 cases hc with
 | leaf hk _ =>
  unfold fitsN at hf
  rcases hk with hk | hk
  · rw [if_pos hk] at hf
    simp only [Bool.and_eq_true, decide_eq_true_eq] at hf
    omega
  · rw [if_neg (by omega), if_pos hk] at hf
    simp only [Bool.and_eq_true, decide_eq_true_eq] at hf
    omega
 | one hk j ha hj _ =>
  have hb0 : y.b = 0 := by
   have h78 := oneK_iff.1 hk
   unfold fitsN at hf
   rw [if_neg (by omega), if_neg (by omega), if_neg (by rw [one_not_two hk]; decide)] at hf
   rcases h78 with h | h
   · rw [if_pos h] at hf
     simp only [Bool.and_eq_true, decide_eq_true_eq] at hf
     omega
   · rw [if_neg (by omega), if_pos h] at hf
     simp only [Bool.and_eq_true, decide_eq_true_eq] at hf
     omega
  omega
 | two hk j i2 hb hj ha hi2 _ =>
  have := hlo2.le j
  omega
def packF (acc : List Nd) : List (List Nd) → List Nd
 | [] => acc
 | c :: r => packF (acc ++ c.map (shiftN acc.length)) r
def packL (us : List (List Nd)) : List Nd := packF [] us
def sumL (us : List (List Nd)) : Nat := (us.map List.length).sum
theorem packF_snoc (us : List (List Nd)) (c : List Nd) : ∀ acc, packF acc (us ++ [c]) = packF acc us ++ c.map (shiftN (packF acc us).length) := by
 induction us with
 | nil => intro acc; rfl
 | cons u us ih => intro acc; exact ih _
theorem packL_next {us : List (List Nd)} {k : Nat} {c : List Nd} (h : us[k]? = some c) : packL (us.take (k + 1)) = packL (us.take k) ++ c.map (shiftN (packL (us.take k)).length) := by
 rw [List.take_add_one, h, Option.toList_some]
 exact packF_snoc _ _ _
theorem packF_len (us : List (List Nd)) : ∀ acc, (packF acc us).length = acc.length + sumL us := by
 induction us with
 | nil => intro acc; rfl
 | cons u us ih =>
  intro acc
  show (packF _ us).length = _
  rw [ih]
  simp [sumL]
  omega
theorem packL_len (us : List (List Nd)) : (packL us).length = sumL us := by have := packF_len us []; simpa [packL] using this
theorem sumL_next {us : List (List Nd)} {k : Nat} {c : List Nd} (h : us[k]? = some c) : sumL (us.take (k + 1)) = sumL (us.take k) + c.length := by
 rw [List.take_add_one, h, Option.toList_some]
 simp [sumL]
theorem sumL_le (us : List (List Nd)) (k : Nat) : sumL (us.take k) ≤ sumL us := by
 have : sumL us = sumL (us.take k) + sumL (us.drop k) := by
  unfold sumL
  rw [List.map_take, List.map_drop, ← List.sum_append, List.take_append_drop]
 omega
theorem lay_pack {P : List Nd} {r : Nat} {c : List Nd} (h : c.length ≤ r) : layL (P ++ List.replicate r zNd) P.length c = P ++ c ++ List.replicate (r - c.length) zNd := by
 unfold layL
 rw [List.take_left, List.append_assoc, List.drop_append, List.drop_of_length_le (by omega), List.nil_append, Nat.add_sub_cancel_left, List.drop_replicate]
def packR (x : Nd) (us : List (List Nd)) : Option (List Nd) := if fitsN x = true ∧ us.all goodT = true ∧ 1 + sumL us ≤ 2000 then some (packL us ++ [x]) else none
def ChR (w : World) (A : Option Addr) (m : Nat) (us : List (List Nd)) : Prop := m = us.length ∧ m ≤ 10 ∧ ∀ i ts, us[i]? = some ts → ∃ g o B n c, A = some ⟨g, o, none⟩ ∧ g < w.heap.size ∧ w.cell? ⟨g, o + i, none⟩ = some (.slice B n c) ∧ TreR w B n c ts
theorem ChR.below {w w' : World} {A : Option Addr} {m : Nat} {us : List (List Nd)} (h : ChR w A m us) (hb : Below w.heap.size w w') : ChR w' A m us := by
 refine ⟨h.1, h.2.1, fun i ts hi => ?_⟩
 obtain ⟨g, o, B, n, c, e, hg, hc, ht⟩ := h.2.2 i ts hi
 exact ⟨g, o, B, n, c, e, Nat.lt_of_lt_of_le hg hb.size, (hb.cell (p := ⟨g, o + i, none⟩) hg).trans hc, ht.below hb⟩
theorem NdR.one {w : World} {g : Nat} {x : Nd} (h : RowA w g 51 (ndV x)) : NdR w g [x] := by
 unfold NdR
 have e : (ndCells [x]).toArray = ndV x := by simp [ndCells]
 rw [e]; exact h
set_option maxHeartbeats 4000000 in
set_option maxRecDepth 100000 in
theorem tGrown_c (kk a b m0 : Int) (t u : ByteArray) (p : Int) (ht : t.size ≤ 1000000) (hu : u.size ≤ 1000000) {w : World} (T : XTab w) {A : Option Addr} {m mc : Nat} (hmc : m ≤ mc ∧ mc ≤ maxLen) {us : List (List Nd)} (h : ChR w A m us) (hm : ∀ ts ∈ us, Mild ts) (hx : us.all goodT = true → 0 ≤ a ∧ a ≤ 1000000 ∧ 0 ≤ b ∧ b ≤ 1000000) (R : Option (List Nd)) (hR : packR ⟨kk, a, b, m0, t, u, p⟩ us = R) :
 Calls Tryz.prog 155 #[.agg (ndC kk a b m0 t u p), .slice A m mc] w fun e w' => ∃ A2 n2 c2, e = .returned (.tuple #[.slice A2 n2 c2, .bool R.isSome]) ∧ TreR w' A2 n2 c2 (R.getD []) ∧ Below w.heap.size w w' := by
 obtain ⟨hmu, hm10, _⟩ := id h
 obtain ⟨mc1, mc2⟩ := hmc
 have HR := Lib.hid hR
 have HC0 := Lib.hid h
 have HMi := Lib.hid hm
 have HT := Lib.hid T
 have HMU := Lib.hid hmu
 have HXf := Lib.hid hx
 have b0 := below_new w (.cells (ndC kk a b m0 t u p) 51)
 have hrx := rowA_new w 51 (ndC kk a b m0 t u p)
 have HB0 := Lib.hid b0
 have HM_x := Lib.hid (manyNd kk a b m0 t u p)
 have HI_x := Lib.hid hrx.inV
 clear hR h hm T hmu hx b0
 cases hf : fitsN ⟨kk, a, b, m0, t, u, p⟩
 · have HFt := Lib.hid hf
   clear hf
   go_enter Tryz.func155, Tryz.ntmps155
   go_wp2_with (refine wpList_loadV (by rfl) _ _ (by rfl) _ _ (by rfl) _ (by assumption) (by assumption) ?_)
   refine (tFits_c kk a b m0 t u p ht hu _ (HT.out.below HB0.out) false HFt.out).mono ?_
   rintro e w1 ⟨rfl, bn⟩
   have HB1 := Lib.hid (below_two HB0.out bn)
   have HX1 := Lib.hid (RowA.below hrx bn)
   clear bn HI_x hrx HB0
   have HR0 : Hid (R = Option.none) := by
    show _ = _
    rw [← HR.out]
    exact if_neg (fun h => by rw [HFt.out] at h; cases h.1)
   go_wp2
   go_ret2
   exact ⟨none, 0, 0, by rw [HR0.out]; rfl, by rw [HR0.out]; exact TreR.nil _ (Nat.zero_le _), HB1.out⟩
 · skip
   have HFt := Lib.hid hf
   clear hf
   go_enter Tryz.func155, Tryz.ntmps155
   go_wp2_with (refine wpList_loadV (by rfl) _ _ (by rfl) _ _ (by rfl) _ (by assumption) (by assumption) ?_)
   refine (tFits_c kk a b m0 t u p ht hu _ (HT.out.below HB0.out) true HFt.out).mono ?_
   rintro e w1 ⟨rfl, bn⟩
   have HB1 := Lib.hid (below_two HB0.out bn)
   have HX1 := Lib.hid (RowA.below hrx bn)
   clear bn HI_x hrx HB0
   go_wp2
   go_loopw [6, 18] (fun s i wr => ∃ k : Nat, s = .int .i64 (1 + (sumL (us.take k) : Int)) ∧ i = .int .i64 (k : Int) ∧ k ≤ m ∧ Hid (sumL (us.take k) ≤ k * 1000000) ∧ Hid (∀ j c, j < k → us[j]? = some c → goodT c = true) ∧ Hid (Below w1.heap.size w1 wr)) (fun _ i _ => m - (intOf i).toNat)
   case atStart => exact ⟨0, rfl, rfl, Nat.zero_le _, Nat.zero_le _, fun j c h => absurd h (Nat.not_lt_zero j), Below.refl _ _⟩
   case round =>
    obtain ⟨k, rfl, rfl, hk, HS, HG, HB⟩ := hrel
    have HBw := Lib.hid (below_two HB1.out HB.out)
    by_cases hlt : k < m
    · skip
      obtain ⟨ts, hts⟩ : ∃ x, us[k]? = some x := ⟨_, List.getElem?_eq_getElem (by rw [← HMU.out]; exact hlt)⟩
      have HTS := Lib.hid hts
      obtain ⟨g, og, B, n, c, rfl, hg, hc, htr⟩ := (HC0.out.below HBw.out).2.2 k ts hts
      have hmi := HMi.out ts (List.mem_of_getElem? hts)
      have hn6 := hmi.1
      rw [← htr.1] at hn6
      have HMt := Lib.hid hmi
      have HTR := Lib.hid htr
      have hs6 := HS.out
      obtain ⟨sm, hsm⟩ : ∃ s, sumL (us.take k) = s := ⟨_, rfl⟩
      have HSM := Lib.hid hsm
      rw [hsm] at hs6 ⊢
      have hs7 : sm ≤ 10000000 := by omega
      have HSB : Hid (sumL (us.take k) ≤ k * 1000000) := HS
      clear hts hg hmi htr hs6 hsm HS
      go_wp2_with fail
      cases hgd : goodT ts
      · have HGD := Lib.hid hgd
        clear hgd
        refine (tGood_c HTR.out HMt.out (HT.out.below HBw.out) false HGD.out).mono ?_
        rintro e w2 ⟨rfl, bn⟩
        have HB2 := Lib.hid (below_two HBw.out bn)
        clear bn
        have HR0 : Hid (R = Option.none) := by
         show _ = _
         rw [← HR.out]
         exact if_neg (fun h => by have h2 := List.all_eq_true.1 h.2.1 ts (List.mem_of_getElem? HTS.out); rw [HGD.out] at h2; cases h2)
        go_wp2
        go_ret2
        exact ⟨none, 0, 0, by rw [HR0.out]; rfl, by rw [HR0.out]; exact TreR.nil _ (Nat.zero_le _), HB2.out⟩
      · have HGD := Lib.hid hgd
        clear hgd
        refine (tGood_c HTR.out HMt.out (HT.out.below HBw.out) true HGD.out).mono ?_
        rintro e w2 ⟨rfl, bn⟩
        have HB2 := Lib.hid (below_two HB.out bn)
        have HS2 : Hid (sumL (us.take (k + 1)) = sm + n) := by show _ = _; rw [sumL_next HTS.out, HSM.out, HTR.out.1]
        have HS3 : Hid (sumL (us.take (k + 1)) ≤ (k + 1) * 1000000) := by
         show _ ≤ _
         rw [HS2.out]
         have : sm ≤ k * 1000000 := by rw [← HSM.out]; exact HSB.out
         omega
        have HG2 : Hid (∀ j c, j < k + 1 → us[j]? = some c → goodT c = true) := by
         intro j c2 hj h2c
         rcases Nat.lt_or_ge j k with h | h
         · exact HG.out j c2 h h2c
         · obtain rfl : j = k := by omega
           obtain rfl := Option.some.inj (HTS.out.symm.trans h2c)
           exact HGD.out
        clear bn hc HG
        go_wp2
        go_roundw
        case rel => exact ⟨k + 1, by rw [HS2.out]; first | rfl | (go_num), by go_num, hlt, HS3, HG2, HB2⟩
        case measure => simp [intOf]; omega
    · skip
      obtain rfl : m = k := by omega
      have hall : us.all goodT = true := List.all_eq_true.2 fun c hc => by
       obtain ⟨j, hj, e⟩ := List.mem_iff_getElem.1 hc
       exact HG.out j c (by rw [HMU.out]; exact hj) (by rw [← e]; exact List.getElem?_eq_getElem hj)
      have HALL := Lib.hid hall
      have hs6 := HS.out
      obtain ⟨sm, hsm⟩ : ∃ s, sumL (us.take m) = s := ⟨_, rfl⟩
      rw [hsm] at hs6 ⊢
      have HSM : Hid (sumL us = sm) := by show _ = _; rw [← hsm, HMU.out, List.take_length]
      have hs7 : sm ≤ 10000000 := by omega
      have HX2 := Lib.hid (HX1.out.below HB.out)
      clear hall hs6 hsm HS HG HB
      by_cases hbig : 2000 < 1 + sm
      · have hb2 : (2000 : Int) < 1 + (sm : Int) := by omega
        have HR0 : Hid (R = Option.none) := by
         show _ = _
         rw [← HR.out]
         exact if_neg (fun h => by have := h.2.2; rw [HSM.out] at this; omega)
        go_wp2
        go_ret2
        exact ⟨none, 0, 0, by rw [HR0.out]; rfl, by rw [HR0.out]; exact TreR.nil _ (Nat.zero_le _), HBw.out⟩
      · have hb2 : ¬ (2000 : Int) < 1 + (sm : Int) := by omega
        have HRs : Hid (R = some (packL us ++ [⟨kk, a, b, m0, t, u, p⟩])) := by
         show _ = _
         rw [← HR.out]
         exact if_pos ⟨HFt.out, HALL.out, by rw [HSM.out]; omega⟩
        obtain ⟨S, hS1⟩ : ∃ S, 1 + sm = S := ⟨_, rfl⟩
        have hSi : (1 + (sm : Int)) = (S : Int) := by omega
        have hmk := made_nd wr S (by omega)
        have bnw := below_new wr (.cells (ndCells (List.replicate S zNd)).toArray 51)
        have HBz := Lib.hid (below_two HBw.out bnw)
        have HX3 := Lib.hid (HX2.out.below bnw)
        have HQ : Hid (w.heap.size ≤ wr.heap.size ∧ w.heap.size < (wr.alloc (.cells (ndCells (List.replicate S zNd)).toArray 51)).heap.size) := by have h1 := HBw.out.size; exact ⟨h1, by simp; omega⟩
        have HN0 : Hid (NdR (wr.alloc (.cells (ndCells (List.replicate S zNd)).toArray 51)) wr.heap.size (List.replicate S zNd)) := rowA_new _ _ _
        have HXq : Hid (w.heap.size < wr.heap.size) := RowA.lt HX2.out
        clear bnw HX2 HBw HX1 HB1
        go_wp2
        generalize wr.alloc (.cells (ndCells (List.replicate S zNd)).toArray 51) = w3 at *
        generalize wr.heap.size = q at *
        clear hmk hSi
        go_loopw [10, 36] (fun s i wr => ∃ k : Nat, s = .int .i64 ((packL (us.take k)).length : Int) ∧ i = .int .i64 (k : Int) ∧ k ≤ m ∧ Hid (NdR wr q ((packL (us.take k)) ++ List.replicate (S - (packL (us.take k)).length) zNd)) ∧ Hid (Below q w3 wr)) (fun _ i _ => m - (intOf i).toNat)
        case atStart => exact ⟨0, rfl, rfl, Nat.zero_le _, HN0, Below.refl _ _⟩
        case round =>
         obtain ⟨k, rfl, rfl, hk, HN, HB⟩ := hrel
         have HBw := Lib.hid (HBz.out.trans (HB.out.mono (Nat.le_of_lt HXq.out)))
         by_cases hlt : k < m
         · skip
           obtain ⟨ts, hts⟩ : ∃ x, us[k]? = some x := ⟨_, List.getElem?_eq_getElem (by rw [← HMU.out]; exact hlt)⟩
           have HTS := Lib.hid hts
           obtain ⟨g, og, B, n, c, rfl, hg, hc, htr⟩ := (HC0.out.below HBw.out).2.2 k ts hts
           have hmi := HMi.out ts (List.mem_of_getElem? hts)
           have hgd := List.all_eq_true.1 HALL.out ts (List.mem_of_getElem? hts)
           have hfr := Lib.hid (fair_good hgd hmi)
           have h1g := (good_all hgd).1
           rw [← htr.1] at h1g
           have hsn := sumL_next hts
           have hsl := sumL_le us (k + 1)
           rw [hsn, HSM.out, ← htr.1, ← packL_len (us.take k)] at hsl
           obtain ⟨P, hP⟩ : ∃ P, packL (us.take k) = P := ⟨_, rfl⟩
           have HP := Lib.hid hP
           rw [hP] at hsl HN ⊢
           have hPS : (P.length : Int) < (S : Int) := by omega
           have hPS2 : P.length < S := by omega
           have hPS3 : n ≤ S - P.length := by omega
           have HLn : Hid ((P ++ List.replicate (S - P.length) zNd).length = S) := by show _ = _; simp; omega
           have HTR := Lib.hid htr
           clear hts hg hmi hgd hsn hsl htr hP
           go_wp2_with fail
           refine (tLay_c (k := P.length) (d := P.length) HN.out (Nat.le_refl _) (by omega) HTR.out h1g hPS3 (by rw [HLn.out]; omega) (by omega) hfr.out rfl).mono ?_
           rintro e w4 ⟨rfl, hL, hb⟩
           have HB2 := Lib.hid (HB.out.trans hb)
           have HPn : Hid (packL (us.take (k + 1)) = P ++ ts.map (shiftN P.length)) := by show _ = _; rw [packL_next HTS.out, HP.out]
           have HLl : Hid ((packL (us.take (k + 1))).length = P.length + n) := by show _ = _; rw [HPn.out, List.length_append, List.length_map, HTR.out.1]
           have HN2 : Hid (NdR w4 q (packL (us.take (k + 1)) ++ List.replicate (S - (packL (us.take (k + 1))).length) zNd)) := by
            show NdR _ _ _
            rw [lay_pack (by rw [List.length_map, ← HTR.out.1]; exact hPS3)] at hL
            rw [HLl.out, HPn.out, show S - (P.length + n) = S - P.length - (ts.map (shiftN P.length)).length by rw [List.length_map, ← HTR.out.1]; omega]
            exact hL
           clear hL hb HN HB hc
           go_wp2
           go_roundw
           case rel => exact ⟨k + 1, by rw [HLl.out]; first | rfl | (go_num), by go_num, hlt, HN2, HB2⟩
           case measure => simp [intOf]; omega
         · skip
           obtain rfl : m = k := by omega
           have hPk : us.take m = us := by rw [HMU.out, List.take_length]
           rw [hPk] at HN ⊢
           have hpl := packL_len us
           rw [HSM.out] at hpl
           have HPL := Lib.hid hpl
           rw [hpl] at HN ⊢
           rw [show S - sm = 1 by omega] at HN
           obtain ⟨xa0, xa1, xb0, xb1⟩ := HXf.out HALL.out
           have hFair : Hid (∀ y ∈ [(⟨kk, a, b, m0, t, u, p⟩ : Nd)], Fair y) := fun y hy => by rw [List.mem_singleton.1 hy]; exact ⟨ht, hu, xa0, xa1, xb0, xb1⟩
           have HX4 : Hid (RowA wr w.heap.size 51 (ndC kk a b m0 t u p)) := (HB.out.block _ HXq.out).trans HX3.out
           have hsS : (sm : Int) < (S : Int) := by omega
           have hqw : q < wr.heap.size := RowA.lt HN.out
           clear hPk hpl HX3
           go_wp2
           generalize wr = wS at *
           have Hsub : Hid (S - sm = 1) := by show _ = _; omega
           have HLq : Hid (0 < 1 ∧ sm + 1 ≤ (packL us ++ List.replicate 1 zNd).length) := ⟨by omega, by simp [HPL.out]⟩
           refine region_free 5 1 [51, 52, 53, 54, 55] ?aF1 (fun wx => Below wS.heap.size wS wx) (fun k vv wx => match k with
            | 0 => vv = .slice (some ⟨q, 0, none⟩) S S
            | 1 => vv = .int .i64 (sm : Int)
            | 2 => vv = .slice (some ⟨q, sm * 7, none⟩) (S - sm) (S - sm)
            | 3 => vv = .agg (ndC kk a b m0 t u p)
            | _ => ∃ (e0 : Nat), vv = .slice (some ⟨e0, 0, none⟩) 1 1 ∧ RowA wx e0 51 (ndC kk a b m0 t u p))
            (fun k => false) (by kernel_rfl) ?haF1 rfl (by kernel_rfl) (by kernel_rfl) (fun _ _ _ _ _ h => h) ?hSb1 ?hPb1 ?hS1 ?hop1 ?hfin1
           case haF1 =>
            intro vals
            simp only [fillAll, List.getElem?_cons_zero, List.getElem?_cons_succ, Act.put, List.setIfInBounds_toArray, List.set_cons_zero, List.set_cons_succ]
            exact rfl
           case hSb1 => exact fun wx w2 hb hS => below_two hS hb
           case hPb1 =>
            intro k v wa wb hb h
            match k, h with
            | 0, h => exact h
            | 1, h => exact h
            | 2, h => exact h
            | 3, h => exact h
            | _ + 4, ⟨e0, h1, g0⟩ => exact ⟨e0, h1, g0.below hb⟩
           case hS1 => exact (Below.refl _ _).drew
           case hop1 =>
            refine .cons (k := 0) ?_ (.cons (k := 1) ?_ (.cons (k := 2) ?_ (.cons (k := 3) ?_ (.cons (k := 4) ?_ (.nil)))))
            all_goals intro vals wr hS hd KC hK
            all_goals (show Oper.wp _ _ _ _ _ _; dsimp only)
            · go_simp
              refine hK _ _ rfl (Below.refl _ _) (by first | rfl | simp) (fun h => by cases h)
            · go_simp
              refine hK _ _ rfl (Below.refl _ _) (by first | rfl | simp) (fun h => by cases h)
            · have d0 : vals 0 = _ := hd 0 (by decide +kernel)
              have d1 : vals 1 = _ := hd 1 (by decide +kernel)
              rw [d0, d1]
              have g1 : sm ≤ S := by omega
              have g2 : ¬ S = sm := by omega
              go_simp
              exact hK _ _ rfl (Below.refl _ _) rfl (fun h => by cases h)
            · refine wp_loadV 51 _ rfl w.heap.size 0 (by kernel_rfl) (ndC kk a b m0 t u p) (Lib.hid (HX4.out.below hS).inV) (Lib.hid HM_x.out) ?_
              refine hK _ _ rfl (Below.refl _ _) (by first | rfl | simp) (fun h => by cases h)
            · have d3 : vals 3 = _ := hd 3 (by decide +kernel)
              rw [d3]
              go_simp
              exact hK _ _ rfl (below_new _ _) ⟨_, rfl, rowA_new wr _ _⟩ (fun h => by cases h)
           case hfin1 =>
            intro vals wr hS hP hne
            have ez_2 : vals 2 = _ := hP 2 (by decide)
            obtain ⟨n_4_0, ez_4, h_4_0⟩ := hP 4 (by decide)
            have HN5 : Hid (NdR wr q (packL us ++ List.replicate 1 zNd)) := HN.out.below hS
            have hnd : NdR wr n_4_0 [⟨kk, a, b, m0, t, u, p⟩] := NdR.one h_4_0
            have HT5 : Hid (TreR wr (some ⟨n_4_0, 0, none⟩) 1 1 [⟨kk, a, b, m0, t, u, p⟩]) := hnd.tree (by show 1 ≤ maxLen; unfold maxLen; omega)
            try dsimp only
            rw [ez_2, ez_4]
            refine wpAny_ready (rs := [5]) (by kernel_rfl) (by simp) (AllReady.cons rfl (fun KC hK => ?_) AllReady.nil)
            go_simp
            rw [Hsub.out]
            go_at_call 174
            with_reducible refine (tLay_c (k := sm) (d := 0) (D := 0) (ts := [⟨kk, a, b, m0, t, u, p⟩]) HN5.out (Nat.le_refl 1) (by decide) HT5.out (by decide) (Nat.le_refl 1) HLq.out.2 (by decide) hFair.out rfl).mono ?_
            rintro e w6 ⟨rfl, hL6, hb6⟩
            refine hK _ _ ?_
            clear hK KC
            try dsimp only [Act.put]
            refine wpAny_done (by kernel_rfl) ?_ _
            have HNf : Hid (NdR w6 q (packL us ++ [⟨kk, a, b, m0, t, u, p⟩])) := by
             show NdR _ _ _
             have h := hL6
             rw [← HPL.out, lay_pack (by simp), List.map_singleton, shiftN_zero] at h
             simpa using h
            have HBf : Hid (Below w.heap.size w w6) := (below_two HBw.out hS).trans (hb6.mono HQ.out.1)
            have htr6 := HNf.out.tree (by simp [HPL.out]; unfold maxLen; omega)
            rw [show (packL us ++ [(⟨kk, a, b, m0, t, u, p⟩ : Nd)]).length = S by simp [HPL.out]; omega] at htr6
            have HTR6 := Lib.hid htr6
            clear htr6 hL6 hb6 hS hP hne
            go_wp2
            go_ret2
            exact ⟨_, _, _, by rw [HRs.out]; rfl, by rw [HRs.out]; exact HTR6.out, HBf.out⟩
end Go.Proofs.YtannifhcjcbkcaaGreatDoor

namespace Go.Proofs.YtannifhcjcbkcaaGreatDoor
open Go.RowKit Limb
set_option linter.unusedVariables false
theorem ChR.nil (w : World) : ChR w none 0 [] := ⟨rfl, by omega, fun i ts h => by simp at h⟩
theorem ChR.one {w : World} {g : Nat} {T : TypeId} {A : Option Addr} {n c : Nat} {ts : List Nd} (hg : RowA w g T #[.slice A n c]) (h : TreR w A n c ts) : ChR w (some ⟨g, 0, none⟩) 1 [ts] := by
 refine ⟨rfl, by omega, fun i us hi => ?_⟩
 match i, hi with
 | 0, hi =>
  cases hi
  exact ⟨g, 0, A, n, c, rfl, hg.lt, hg.cell (k := 0) rfl, h⟩
theorem ChR.two {w : World} {g : Nat} {T : TypeId} {A B : Option Addr} {n c m d : Nat} {ts us : List Nd} (hg : RowA w g T #[.slice A n c, .slice B m d]) (h : TreR w A n c ts) (h2 : TreR w B m d us) : ChR w (some ⟨g, 0, none⟩) 2 [ts, us] := by
 refine ⟨rfl, by omega, fun i vs hi => ?_⟩
 match i, hi with
 | 0, hi =>
  cases hi
  exact ⟨g, 0, A, n, c, rfl, hg.lt, hg.cell (k := 0) rfl, h⟩
 | 1, hi =>
  cases hi
  exact ⟨g, 0, B, m, d, rfl, hg.lt, hg.cell (k := 1) rfl, h2⟩
set_option maxHeartbeats 4000000 in
set_option maxRecDepth 100000 in
theorem tLit_c (t u : ByteArray) (ht : t.size ≤ 1000000) (hu : u.size ≤ 1000000) {w : World} (T : XTab w) (R : Option (List Nd)) (hR : packR ⟨1, 0, 0, 0, t, u, 0⟩ [] = R) :
 Calls Tryz.prog 134 #[.string t, .string u] w fun e w' => ∃ A2 n2 c2, e = .returned (.tuple #[.slice A2 n2 c2, .bool R.isSome]) ∧ TreR w' A2 n2 c2 (R.getD []) ∧ Below w.heap.size w w' := by
 have HBd : Hid (∀ W, (Instr.build 51 ([(0, .int .i64 1), (4, .string t), (5, .string u)] : List (Nat × Value)).toArray).run Tryz.prog W = .ok (.agg (ndC 1 0 0 0 t u 0)) W) := fun W => by kernel_rfl
 have HR := Lib.hid hR
 have HT := Lib.hid T
 have HBw := Lib.hid (Below.refl w.heap.size w)
 clear hR T
 go_enter Tryz.func134, Tryz.ntmps134
 go_wp2_with (refine wpList_buildV (by rfl) _ _ (by rfl) _ (by rfl) _ (by assumption) ?_)
 refine (tGrown_c 1 0 0 0 t u 0 ht hu HT.out (m := 0) (mc := 0) ⟨by omega, by unfold maxLen; omega⟩ (ChR.nil w) (fun ts h => by cases h) (fun _ => by omega) R HR.out).mono ?_
 rintro e w2 ⟨A2, n2, c2, rfl, htr, bn⟩
 have HTR := Lib.hid htr
 have HB := Lib.hid (below_two HBw.out bn)
 clear htr bn
 go_wp2
 go_ret2
 exact ⟨_, _, _, rfl, HTR.out, HB.out⟩
end Go.Proofs.YtannifhcjcbkcaaGreatDoor

namespace Go.Proofs.YtannifhcjcbkcaaGreatDoor
open Go.RowKit Limb
set_option linter.unusedVariables false
set_option maxHeartbeats 4000000 in
set_option maxRecDepth 100000 in
theorem tEqf_c {w : World} {A B : Option Addr} {n c m0 d : Nat} {ts us : List Nd} (h1 : TreR w A n c ts) (h2 : TreR w B m0 d us) (v : Bool) (hv : sameT ts us = v) :
 Calls Tryz.prog 135 #[.slice A n c, .slice B m0 d, .func (.func 136) #[] #[]] w fun e w' => e = .returned (.bool v) ∧ Below w.heap.size w w' := by
 obtain ⟨hn, hc, hcm, _⟩ := id h1
 obtain ⟨hn2, hc2, hcm2, _⟩ := id h2
 have H1 := Lib.hid h1
 have H2 := Lib.hid h2
 have HN1 := Lib.hid hn
 have HN2 := Lib.hid hn2
 have HV := Lib.hid hv
 clear h1 h2 hn hn2 hv
 have eq1 : maxLen = 9223372036854775807 := rfl
 by_cases hl : n = m0
 · subst hl
   go_enter Tryz.func135, Tryz.ntmps135
   go_wp2
   go_loopw [17] (fun i wr => ∃ k : Nat, i = .int .i64 (k : Int) ∧ k ≤ n ∧ Hid (∀ i x y, i < k → ts[i]? = some x → us[i]? = some y → sameN x y = true) ∧ Hid (Below w.heap.size w wr)) (fun i _ => n - (intOf i).toNat)
   case atStart => exact ⟨0, rfl, Nat.zero_le _, fun i x y h => absurd h (Nat.not_lt_zero i), Below.refl _ _⟩
   case round =>
    obtain ⟨k, rfl, hk, HP, HB⟩ := hrel
    by_cases hlt : k < n
    · skip
      obtain ⟨x, hx⟩ : ∃ x, ts[k]? = some x := ⟨_, List.getElem?_eq_getElem (by rw [← HN1.out]; exact hlt)⟩
      obtain ⟨y, hy⟩ : ∃ y, us[k]? = some y := ⟨_, List.getElem?_eq_getElem (by rw [← HN2.out]; exact hlt)⟩
      have HX := Lib.hid hx
      have HY := Lib.hid hy
      obtain ⟨g, og, rfl, hg, hin⟩ := (H1.out.below HB.out).at hx
      obtain ⟨g2, og2, rfl, hg2, hin2⟩ := (H2.out.below HB.out).at hy
      obtain ⟨k1, a1, b1, m1, t1, u1, p1⟩ := x
      obtain ⟨k2, a2, b2, m2, t2, u2, p2⟩ := y
      have bn1 := below_new wr (.cells (ndC k1 a1 b1 m1 t1 u1 p1) 51)
      have bn2 := below_new (wr.alloc (.cells (ndC k1 a1 b1 m1 t1 u1 p1) 51)) (.cells (ndC k2 a2 b2 m2 t2 u2 p2) 51)
      have HI_1 : Hid (InV wr g (og + k * 7) (ndC k1 a1 b1 m1 t1 u1 p1)) := hin
      have HI_2 : Hid (InV (wr.alloc (.cells (ndC k1 a1 b1 m1 t1 u1 p1) 51)) g2 (og2 + k * 7) (ndC k2 a2 b2 m2 t2 u2 p2)) := InV.below hin2 hg2 bn1
      have HI_3 : Hid (InV ((wr.alloc (.cells (ndC k1 a1 b1 m1 t1 u1 p1) 51)).alloc (.cells (ndC k2 a2 b2 m2 t2 u2 p2) 51)) wr.heap.size 0 (ndC k1 a1 b1 m1 t1 u1 p1)) := ((rowA_new wr 51 (ndC k1 a1 b1 m1 t1 u1 p1)).below bn2).inV
      have HI_4 : Hid (InV ((wr.alloc (.cells (ndC k1 a1 b1 m1 t1 u1 p1) 51)).alloc (.cells (ndC k2 a2 b2 m2 t2 u2 p2) 51)) (wr.heap.size + 1) 0 (ndC k2 a2 b2 m2 t2 u2 p2)) := by have := (rowA_new (wr.alloc (.cells (ndC k1 a1 b1 m1 t1 u1 p1) 51)) 51 (ndC k2 a2 b2 m2 t2 u2 p2)).inV; rw [World.size_alloc] at this; exact this
      have HM_1 := Lib.hid (manyNd k1 a1 b1 m1 t1 u1 p1)
      have HM_2 := Lib.hid (manyNd k2 a2 b2 m2 t2 u2 p2)
      have HU_1 : Hid (Many Tryz.prog 51 (ndC k1 a1 b1 m1 t1 u1 p1).size ∧ zN.size = (ndC k1 a1 b1 m1 t1 u1 p1).size ∧ ∀ v ∈ ndC k1 a1 b1 m1 t1 u1 p1, v.oneCell' = true) := fitsNd ⟨k1, a1, b1, m1, t1, u1, p1⟩ zNd
      have HU_2 : Hid (Many Tryz.prog 51 (ndC k2 a2 b2 m2 t2 u2 p2).size ∧ zN.size = (ndC k2 a2 b2 m2 t2 u2 p2).size ∧ ∀ v ∈ ndC k2 a2 b2 m2 t2 u2 p2, v.oneCell' = true) := fitsNd ⟨k2, a2, b2, m2, t2, u2, p2⟩ zNd
      have HB2 := Lib.hid (below_two HB.out (below_two bn1 bn2))
      clear hx hy hin hin2 hg hg2 bn1 bn2 HB
      obtain ⟨z, hz⟩ : ∃ z, sameN ⟨k1, a1, b1, m1, t1, u1, p1⟩ ⟨k2, a2, b2, m2, t2, u2, p2⟩ = z := ⟨_, rfl⟩
      have HZ := Lib.hid hz
      clear hz
      go_wp2_with (first | (refine wpList_loadV (by rfl) _ _ (by rfl) _ _ (by rfl) _ (by assumption) (by assumption) ?_) | (refine wpList_storeNew (by rfl) _ _ _ (by rfl) _ _ _ (by rfl) (by rfl) (by assumption) ?_))
      refine (tAlike_c HZ.out _).mono ?_
      rintro e w3 ⟨rfl, bn⟩
      have HB3 := Lib.hid (below_two HB2.out bn)
      clear bn HB2 HI_1 HI_2 HI_3 HI_4 HU_1 HU_2
      cases z
      · have HV0 : Hid (v = false) := by
         show _ = _
         rw [← HV.out]
         refine Bool.eq_false_iff.2 fun e => ?_
         have := (sameT_iff.1 e).2 k _ _ HX.out HY.out
         rw [HZ.out] at this; cases this
        go_wp2
        go_ret
        exact ⟨by rw [HV0.out]; rfl, HB3.out⟩
      · have HP2 : Hid (∀ i x y, i < k + 1 → ts[i]? = some x → us[i]? = some y → sameN x y = true) := by
         intro i x y hi h1 h2
         rcases Nat.lt_or_ge i k with h | h
         · exact HP.out i x y h h1 h2
         · obtain rfl : i = k := by omega
           obtain rfl := Option.some.inj (HX.out.symm.trans h1)
           obtain rfl := Option.some.inj (HY.out.symm.trans h2)
           exact HZ.out
        clear HP
        go_wp2
        go_roundw
        case rel => exact ⟨k + 1, by go_num, hlt, HP2, HB3⟩
        case measure => simp [intOf]; omega
    · obtain rfl : k = n := by omega
      have HV1 : Hid (v = true) := by
       show _ = _
       rw [← HV.out]
       exact sameT_iff.2 ⟨HN1.out.symm.trans HN2.out, fun i x y h1 h2 => HP.out i x y (by have := (List.getElem?_eq_some_iff.1 h1).1; rw [HN1.out]; exact this) h1 h2⟩
      go_wp2
      go_ret
      exact ⟨by rw [HV1.out]; rfl, HB.out⟩
 · have HV0 : Hid (v = false) := by
    show _ = _
    rw [← HV.out]
    exact Bool.eq_false_iff.2 fun e => hl (by rw [HN1.out, HN2.out]; exact (sameT_iff.1 e).1)
   have e0 : ((n : Int) != (m0 : Int)) = true := by rw [bne_iff_ne]; omega
   go_enter Tryz.func135, Tryz.ntmps135
   go_wp2
   go_ret
   exact ⟨by rw [HV0.out]; rfl, Below.refl _ _⟩
set_option maxHeartbeats 4000000 in
set_option maxRecDepth 100000 in
theorem tSame_c {w : World} {A B : Option Addr} {n c m0 d : Nat} {ts us : List Nd} (h1 : TreR w A n c ts) (h2 : TreR w B m0 d us) (v : Bool) (hv : sameT ts us = v) :
 Calls Tryz.prog 104 #[.slice A n c, .slice B m0 d] w fun e w' => e = .returned (.bool v) ∧ Below w.heap.size w w' := by
 have HE := Lib.hid (tEqf_c h1 h2 v hv)
 clear h1 h2 hv
 go_enter Tryz.func104, Tryz.ntmps104
 go_wp2_with fail
 refine HE.out.mono ?_
 rintro e w1 ⟨rfl, bn⟩
 have HB := Lib.hid bn
 clear bn HE
 go_wp2
 go_ret
 exact ⟨rfl, HB.out⟩
end Go.Proofs.YtannifhcjcbkcaaGreatDoor

namespace Go.Proofs.YtannifhcjcbkcaaGreatDoor
open Go.RowKit Limb
set_option linter.unusedVariables false
end Go.Proofs.YtannifhcjcbkcaaGreatDoor

namespace Go.Proofs.YtannifhcjcbkcaaGreatDoor
open Go.RowKit Limb
set_option linter.unusedVariables false
theorem map_shift0 (ts : List Nd) : ts.map (shiftN 0) = ts := by
 induction ts with
 | nil => rfl
 | cons x r ih => rw [List.map_cons, shiftN_zero, ih]
theorem getD_one {o : List Nat} {j : Nat} (h : j < o.length) (a b : Nat) : o.getD j a = o.getD j b := by
 rw [List.getD_eq_getElem?_getD, List.getD_eq_getElem?_getD, List.getElem?_eq_getElem h]; rfl
end Go.Proofs.YtannifhcjcbkcaaGreatDoor

namespace Go.Proofs.YtannifhcjcbkcaaGreatDoor
open Go.RowKit Limb
set_option linter.unusedVariables false
def TokK (t : Tk) : Prop := okTk t = true ∧ Bytes t.2.1 ∧ (t.1 = 4 → t.2.1.all inUn = true)
def ToksK (l : List Tk) : Prop := ∀ t ∈ l, TokK t
theorem ToksK.behind {x l : List Tk} (h : ToksK (x ++ l)) : ToksK l := fun y hy => h y (List.mem_append_right _ hy)
def semi (t : Tk) : Bool := isT 3 [59] t
def Took (l q : List Tk) : Prop := ∃ x, x ≠ [] ∧ l = x ++ q ∧ ∀ z ∈ x, semi z = false
theorem Took.cons {t : Tk} (h : semi t = false) (l : List Tk) : Took (t :: l) l := ⟨[t], by simp, rfl, fun z hz => by rw [List.mem_singleton.1 hz]; exact h⟩
theorem Took.trans {a b c : List Tk} (h : Took a b) (k : Took b c) : Took a c := by
 obtain ⟨x, hx, rfl, h1⟩ := h
 obtain ⟨y, hy, rfl, h2⟩ := k
 exact ⟨x ++ y, by simp [hx], by rw [List.append_assoc], fun z hz => (List.mem_append.1 hz).elim (h1 z) (h2 z)⟩
theorem Took.more {t : Tk} (ht : semi t = false) {l q : List Tk} (h : Took l q) : Took (t :: l) q := (Took.cons ht l).trans h
theorem isT_kind {kd : Nat} {tx : List Nat} {t : Tk} (h : isT kd tx t = true) : t.1 = kd ∧ (tx = [] ∨ t.2.1 = tx) := by
 unfold isT at h
 simp only [Bool.and_eq_true, Bool.or_eq_true, decide_eq_true_eq, List.isEmpty_iff] at h
 exact h
def FaultK (en : Nat) (l : List Tk) (e p : Nat) : Prop := (e = 2 ∨ e = 12) ∧ (p = en ∨ ∃ z ∈ l, p = z.2.2)
theorem FaultK.up {en e p : Nat} {l q : List Tk} (h : FaultK en q e p) (hs : ∀ z ∈ q, z ∈ l) : FaultK en l e p := by
 obtain ⟨h1, h2⟩ := h
 refine ⟨h1, ?_⟩
 rcases h2 with h2 | ⟨z, hz, h2⟩
 · exact .inl h2
 · exact .inr ⟨z, hs z hz, h2⟩
structure TreeK (L : Lim) (l : List Tk) (n0 : Nat) (t : List Nd) (n : Nat) : Prop where
 good : goodT t = true
 cnt : n = n0 + t.length
 lim : n ≤ L.nodes
 at' : ∀ y ∈ t, ∃ z ∈ l, y.p = (z.2.2 : Int)
 pow : ∀ y ∈ t, y.k = 8 → -(L.power : Int) ≤ y.n ∧ y.n ≤ (L.power : Int)
def Lim.Fit (L : Lim) : Prop := L.nodes ≤ 2000 ∧ L.power ≤ 64 ∧ L.deep ≤ 60 ∧ L.text ≤ 4000
theorem FaultK.hd {en e : Nat} {t : Tk} {r : List Tk} (h : e = 2 ∨ e = 12) : FaultK en (t :: r) e t.2.2 := ⟨h, .inr ⟨t, List.mem_cons_self, rfl⟩⟩
theorem takeT_cons (en kd : Nat) (tx : List Nat) (t : Tk) (r : List Tk) (n : Nat) : takeT en kd tx (t :: r) n = if isT kd tx t = true then .ok t r n else .bad 12 t.2.2 := rfl
theorem nameT_cons (en : Nat) (t : Tk) (r : List Tk) (n : Nat) : nameT en (t :: r) n = if t.1 = 1 ∧ isNam t.2.1 = true then .ok t r n else .bad 12 t.2.2 := rfl
theorem leaf_good {x : Nd} (hk : x.k = 1 ∨ x.k = 2) (hf : fitsN x = true) : goodT [x] = true := by
 have hs : stepB [] x = some ([] : List Nat).length := stepB_leaf hf hk
 have hb : begT [x] = some [0] := begF_step hs []
 rw [goodT_of hb (by simp) (by simp)]; rfl
theorem TreeK.leaf {L : Lim} {l : List Tk} {n p : Nat} {x : Nd} (hk : x.k = 1 ∨ x.k = 2) (hf : fitsN x = true) (hn : n + 1 ≤ L.nodes) (hp : x.p = (p : Int)) (hz : ∃ z ∈ l, p = z.2.2) : TreeK L l n [x] (n + 1) :=
 ⟨leaf_good hk hf, rfl, hn, fun y hy => by rw [List.mem_singleton.1 hy]; obtain ⟨z, hz, e⟩ := hz; exact ⟨z, hz, by rw [hp, e]⟩, fun y hy h8 => by rw [List.mem_singleton.1 hy] at h8; rcases hk with h | h <;> omega⟩
end Go.Proofs.YtannifhcjcbkcaaGreatDoor

namespace Go.Proofs.YtannifhcjcbkcaaGreatDoor
open Go.RowKit Limb
set_option linter.unusedVariables false
inductive All2 {α β : Type} (R : α → β → Prop) : List α → List β → Prop where
  | nil : All2 R [] []
  | cons {a : α} {b : β} {l : List α} {m : List β} : R a b → All2 R l m → All2 R (a :: l) (b :: m)
theorem All2.map {α β : Type} {R : α → β → Prop} {f : α → α} {g : β → β} (hf : ∀ a b, R a b → R (f a) (g b)) {l : List α} {m : List β} (h : All2 R l m) : All2 R (l.map f) (m.map g) := by
 induction h with
 | nil => exact .nil
 | cons h1 _ ih => exact .cons (hf _ _ h1) ih
theorem All2.refl {α : Type} {R : α → α → Prop} (hr : ∀ a, R a a) (l : List α) : All2 R l l := by
 induction l with
 | nil => exact .nil
 | cons a l ih => exact .cons (hr a) ih
theorem All2.one {α β : Type} {R : α → β → Prop} {a : α} {b : β} (h : R a b) : All2 R [a] [b] := .cons h .nil
def TkR (P : Nat → Nat → Prop) (a b : Tk) : Prop := a.1 = b.1 ∧ a.2.1 = b.2.1 ∧ P a.2.2 b.2.2
def PaQ {α : Type} (P : Nat → Nat → Prop) (R : α → α → Prop) (d : Nat) (r r' : PaR α) : Prop :=
 (∃ p, r = .bad 2 p) ∨ (∃ a q m a' q', r = .ok a q (m + d) ∧ r' = .ok a' q' m ∧ R a a' ∧ All2 (TkR P) q q') ∨ ∃ e p p', r = .bad e p ∧ r' = .bad e p'
theorem PaQ.ok {α : Type} {P : Nat → Nat → Prop} {R : α → α → Prop} {d : Nat} {a a' : α} {q q' : List Tk} {m : Nat} (h : R a a') (k : All2 (TkR P) q q') : PaQ P R d (.ok a q (m + d)) (.ok a' q' m) := .inr (.inl ⟨a, q, m, a', q', rfl, rfl, h, k⟩)
theorem PaQ.bad {α : Type} {P : Nat → Nat → Prop} {R : α → α → Prop} {d : Nat} (e p p' : Nat) : PaQ P R d (.bad e p : PaR α) (.bad e p') := .inr (.inr ⟨e, p, p', rfl, rfl⟩)
theorem PaQ.lim {α : Type} {P : Nat → Nat → Prop} {R : α → α → Prop} {d : Nat} (p : Nat) (r' : PaR α) : PaQ P R d (.bad 2 p) r' := .inl ⟨p, rfl⟩
variable {P : Nat → Nat → Prop}
theorem TkR.isT {a b : Tk} (h : TkR P a b) (kd : Nat) (tx : List Nat) : isT kd tx a = isT kd tx b := by unfold Proofs.YtannifhcjcbkcaaGreatDoor.isT; rw [h.1, h.2.1]
def Lim.le (L L' : Lim) : Prop := L.nodes ≤ L'.nodes ∧ L.power ≤ L'.power ∧ L.deep ≤ L'.deep
end Go.Proofs.YtannifhcjcbkcaaGreatDoor

namespace Go.Proofs.YtannifhcjcbkcaaGreatDoor
open Go.RowKit Limb
set_option linter.unusedVariables false
def PaS {α : Type} (l : List Tk) (n : Nat) (r : PaR α) : Prop := ∀ a q m, r = .ok a q m → (∃ x, l = x ++ q) ∧ n ≤ m
theorem PaS.next {α β : Type} {l : List Tk} {n : Nat} {r : PaR α} {f : α → List Tk → Nat → PaR β} (h : PaS l n r) (k : ∀ a q m, PaS q m (f a q m)) : PaS l n (r.next f) := by
 intro b q m e
 cases r with
 | bad e' p => cases e
 | ok a q' m' =>
  obtain ⟨⟨x, rfl⟩, h1⟩ := h a q' m' rfl
  obtain ⟨⟨z, rfl⟩, h2⟩ := k a q' m' b q m e
  exact ⟨⟨x ++ z, by rw [List.append_assoc]⟩, Nat.le_trans h1 h2⟩
theorem PaS.bad {α : Type} (l : List Tk) (n e p : Nat) : PaS l n (.bad e p : PaR α) := fun _ _ _ h => by cases h
theorem PaS.ok {α : Type} (l : List Tk) (a : α) (n : Nat) : PaS l n (.ok a l n) := fun _ _ _ h => by cases h; exact ⟨⟨[], rfl⟩, Nat.le_refl _⟩
theorem PaS.cons {α : Type} {t : Tk} {l : List Tk} {n : Nat} {r : PaR α} (h : PaS l n r) : PaS (t :: l) n r := fun a q m e => by obtain ⟨⟨x, rfl⟩, h2⟩ := h a q m e; exact ⟨⟨t :: x, rfl⟩, h2⟩
theorem PaS.tail {α : Type} {l : List Tk} {n : Nat} {r : PaR α} (h : PaS l.tail n r) : PaS l n r := by
 cases l with
 | nil => exact h
 | cons t l => exact PaS.cons h
theorem takeT_s (en kd : Nat) (tx : List Nat) (l : List Tk) (n : Nat) : PaS l n (takeT en kd tx l n) := by
 cases l with
 | nil => exact .bad _ _ _ _
 | cons t r =>
  rw [takeT_cons]
  split
  · exact .cons (.ok _ _ _)
  · exact .bad _ _ _ _
theorem nameT_s (en : Nat) (l : List Tk) (n : Nat) : PaS l n (nameT en l n) := by
 cases l with
 | nil => exact .bad _ _ _ _
 | cons t r =>
  rw [nameT_cons]
  split
  · exact .cons (.ok _ _ _)
  · exact .bad _ _ _ _
theorem madeT_s (L : Lim) (t : List Nd) (p : Nat) (l : List Tk) (n : Nat) : PaS l n (madeT L t p l n) := by
 unfold madeT
 split
 · exact .bad _ _ _ _
 · intro a q m e; injection e with _ e2 e3; exact ⟨⟨[], e2⟩, by omega⟩
theorem powB_s (L : Lim) (en : Nat) (t : List Nd) (pa : Nat) (sg : Bool) (l : List Tk) (n : Nat) : PaS l n (powB L en t pa sg l n) := by
 unfold powB
 refine (takeT_s _ _ _ _ _).next fun x q m => ?_
 cases smallT x.2.1 3 with
 | none => exact .bad _ _ _ _
 | some k =>
  dsimp only
  split
  · exact .bad _ _ _ _
  · exact madeT_s _ _ _ _ _
theorem powT_s (L : Lim) (en : Nat) (t : List Nd) (l : List Tk) (n : Nat) : PaS l n (powT L en t l n) := by
 unfold powT
 split
 · split
   · exact .tail (.tail (powB_s _ _ _ _ _ _ _))
   · exact .tail (powB_s _ _ _ _ _ _ _)
 · exact .ok _ _ _
theorem atomT_s (L : Lim) (en : Nat) (l : List Tk) (n : Nat) : PaS l n (atomT L en l n) := by
 unfold atomT
 cases l with
 | nil => exact .bad _ _ _ _
 | cons x r =>
  dsimp only
  split
  · cases r with
    | nil => exact .cons (madeT_s _ _ _ _ _)
    | cons y q =>
     dsimp only
     split
     · exact .cons (.cons (madeT_s _ _ _ _ _))
     · exact .cons (madeT_s _ _ _ _ _)
  · split
    · exact .cons (madeT_s _ _ _ _ _)
    · exact .bad _ _ _ _
def RdS (f : Rdr) : Prop := ∀ l n, PaS l n (f l n)
theorem loopT_s (L : Lim) {f : Rdr} (hf : RdS f) (op : Tk → Option Int) : ∀ (g : Nat) (t : List Nd) (l : List Tk) (n : Nat), PaS l n (loopT L f op g t l n) := by
 intro g
 induction g with
 | zero => intro t l n; exact .ok _ _ _
 | succ g ih =>
  intro t l n
  cases l with
  | nil => exact .ok _ _ _
  | cons x r =>
   unfold loopT
   cases op x with
   | none => exact .ok _ _ _
   | some k => exact .cons ((hf r n).next fun u q m => (madeT_s _ _ _ _ _).next fun t q m => ih t q m)
theorem rowT_s (L : Lim) {f : Rdr} (hf : RdS f) (op : Tk → Option Int) : RdS (rowT L f op) := fun l n => (hf l n).next fun t q m => loopT_s L hf op _ _ _ _
theorem formT_s (L : Lim) {f : Rdr} (hf : RdS f) : RdS (formT L f) := rowT_s L (rowT_s L hf _) _
theorem facS_s (L : Lim) (en : Nat) {sub : Option Rdr} (hs : ∀ f, sub = some f → RdS f) : RdS (facS L en sub) := by
 intro l n
 unfold facS
 split
 · cases sub with
   | none => exact .bad _ _ _ _
   | some f => exact .tail ((hs f rfl _ _).next fun a q m => madeT_s _ _ _ _ _)
 · split
   · cases sub with
     | none => exact .bad _ _ _ _
     | some f => exact .tail ((formT_s L (hs f rfl) _ _).next fun a q m => (takeT_s _ _ _ _ _).next fun b q m => powT_s _ _ _ _ _)
   · exact (atomT_s _ _ _ _).next fun a q m => powT_s _ _ _ _ _
theorem facT_s (L : Lim) (en : Nat) : ∀ d, RdS (facT L en d)
 | 0 => facS_s L en fun f h => by cases h
 | d + 1 => facS_s L en fun f h => by injection h with h; subst h; exact facT_s L en d
theorem formL_s (L : Lim) (en : Nat) : RdS (formL L en) := formT_s L (facT_s L en _)
theorem numB_s (en : Nat) (s : List Nat) (l : List Tk) (n : Nat) : PaS l n (numB en s l n) := by
 unfold numB
 refine (takeT_s _ _ _ _ _).next fun x q m => ?_
 split
 · exact .tail ((takeT_s _ _ _ _ _).next fun x q m => .ok _ _ _)
 · exact .ok _ _ _
theorem numT_s (en : Nat) (l : List Tk) (n : Nat) : PaS l n (numT en l n) := by
 unfold numT
 split
 · exact .tail (numB_s _ _ _ _)
 · exact numB_s _ _ _ _
theorem semiT_s (en : Nat) (d : Dc) (l : List Tk) (n : Nat) : PaS l n (semiT en d l n) := (takeT_s _ _ _ _ _).next fun x q m => .ok _ _ _
theorem outB_s (en : Nat) (d : Dc) (l : List Tk) (n : Nat) : PaS l n (outB en d l n) := by
 unfold outB
 refine (takeT_s _ _ _ _ _).next fun _ q m => (takeT_s _ _ _ _ _).next fun x q m => ?_
 cases smallT x.2.1 2 with
 | none => exact .bad _ _ _ _
 | some k =>
  dsimp only
  split
  · exact .bad _ _ _ _
  · exact semiT_s _ _ _ _
theorem unitT_s (l : List Tk) : ∃ x, l = x ++ (unitT l).2 := by
 unfold unitT
 cases l with
 | nil => exact ⟨[], rfl⟩
 | cons t r =>
  dsimp only
  split
  · exact ⟨[t], rfl⟩
  · exact ⟨[], rfl⟩
theorem PaS.of {α : Type} {l q : List Tk} {n : Nat} {r : PaR α} (h : ∃ x, l = x ++ q) (k : PaS q n r) : PaS l n r := by
 obtain ⟨x, rfl⟩ := h
 intro a q' m e
 obtain ⟨⟨z, rfl⟩, h2⟩ := k a q' m e
 exact ⟨⟨x ++ z, by rw [List.append_assoc]⟩, h2⟩
theorem bodyT_s (L : Lim) (en k : Nat) (d : Dc) (l : List Tk) (n : Nat) : PaS l n (bodyT L en k d l n) := by
 unfold bodyT
 split
 · exact (numT_s _ _ _).next fun _ _ _ => (takeT_s _ _ _ _ _).next fun _ _ _ => semiT_s _ _ _ _
 · split
   · exact (numT_s _ _ _).next fun _ _ _ => .of (unitT_s _) ((takeT_s _ _ _ _ _).next fun _ _ _ => (numT_s _ _ _).next fun _ _ _ => semiT_s _ _ _ _)
   · split
     · exact (numT_s _ _ _).next fun _ _ _ => semiT_s _ _ _ _
     · split
       · exact (formL_s _ _ _ _).next fun _ _ _ => semiT_s _ _ _ _
       · refine (formL_s _ _ _ _).next fun _ _ _ => ?_
         split
         · exact .tail ((takeT_s _ _ _ _ _).next fun _ _ _ => outB_s _ _ _ _)
         · exact outB_s _ _ _ _
theorem headT_s (en k : Nat) (l : List Tk) (n : Nat) : PaS l n (headT en k l n) := by
 unfold headT
 refine (nameT_s _ _ _).next fun _ _ _ => ?_
 split
 · exact (nameT_s _ _ _).next fun _ _ _ => (takeT_s _ _ _ _ _).next fun _ _ _ => .ok _ _ _
 · exact (takeT_s _ _ _ _ _).next fun _ _ _ => .ok _ _ _
def PaT {α : Type} (y y' : List Tk) (r r' : PaR α) : Prop := ∀ a q m, q ≠ [] → r = .ok a (q ++ y) m → r' = .ok a (q ++ y') m
theorem PaT.none {α : Type} {y y' : List Tk} {n : Nat} {r r' : PaR α} (h : PaS y n r) : PaT y y' r r' := by
 intro a q m hq e
 obtain ⟨⟨x, hx⟩, _⟩ := h a _ m e
 have h1 := congrArg List.length hx
 rw [List.length_append, List.length_append] at h1
 have := List.length_pos_iff.2 hq
 omega
theorem PaT.ok {α : Type} {y y' x : List Tk} (a : α) (n : Nat) : PaT y y' (.ok a (x ++ y) n) (.ok a (x ++ y') n) := by
 intro b q m hq e
 injection e with e1 e2 e3
 rw [List.append_cancel_right e2, e1, e3]
variable {y y' : List Tk}
end Go.Proofs.YtannifhcjcbkcaaGreatDoor

namespace Go.Proofs.YtannifhcjcbkcaaGreatDoor
open Go.RowKit Limb
set_option linter.unusedVariables false
def PaN {α : Type} (l : List Tk) (r : PaR α) : Prop := ∀ a q m, r = .ok a q m → ∃ x, l = x ++ q ∧ ∀ z ∈ x, semi z = false
def PaE {α : Type} (l : List Tk) (r : PaR α) : Prop := ∀ a q m, r = .ok a q m → ∃ x s, l = x ++ s :: q ∧ semi s = true ∧ ∀ z ∈ x, semi z = false
theorem PaN.ok {α : Type} (l : List Tk) (a : α) (n : Nat) : PaN l (.ok a l n) := fun _ _ _ h => by cases h; exact ⟨[], rfl, fun z hz => by cases hz⟩
theorem PaN.cons {α : Type} {t : Tk} (ht : semi t = false) {l : List Tk} {r : PaR α} (h : PaN l r) : PaN (t :: l) r := fun a q m e => by
 obtain ⟨x, rfl, h1⟩ := h a q m e
 exact ⟨t :: x, rfl, fun z hz => by rcases List.mem_cons.1 hz with rfl | hz; · exact ht
                                    · exact h1 z hz⟩
theorem PaE.cons {α : Type} {t : Tk} (ht : semi t = false) {l : List Tk} {r : PaR α} (h : PaE l r) : PaE (t :: l) r := fun a q m e => by
 obtain ⟨x, s, rfl, h1, h2⟩ := h a q m e
 exact ⟨t :: x, s, rfl, h1, fun z hz => by rcases List.mem_cons.1 hz with rfl | hz; · exact ht
                                           · exact h2 z hz⟩
variable {y y' : List Tk}
end Go.Proofs.YtannifhcjcbkcaaGreatDoor

namespace Go.Proofs.YtannifhcjcbkcaaGreatDoor
open Go.RowKit Limb
set_option linter.unusedVariables false
def PaC {α : Type} (en' : Nat) (S : α → α → Prop) (y : List Tk) (r r' : PaR α) : Prop := ∀ a q m, r = .ok a q m → r' = .bad 12 en' ∨ (∃ a' m', r' = .ok a' [] m' ∧ m' ≤ m ∧ S a a') ∨ ∃ q1, q1 ≠ [] ∧ q = q1 ++ y ∧ r' = .ok a q1 m
def PaZ {α : Type} (en' : Nat) (S : α → α → Prop) (r r' : PaR α) : Prop := ∀ a q m, r = .ok a q m → r' = .bad 12 en' ∨ ∃ a' m', r' = .ok a' [] m' ∧ m' ≤ m ∧ S a a'
def Any {α : Type} (_ _ : α) : Prop := True
theorem PaC.bad {α : Type} {en' : Nat} {S : α → α → Prop} {y : List Tk} {e p : Nat} {r' : PaR α} : PaC en' S y (.bad e p) r' := fun _ _ _ h => by cases h
theorem PaZ.bad {α : Type} {en' : Nat} {S : α → α → Prop} {e p : Nat} {r' : PaR α} : PaZ en' S (.bad e p) r' := fun _ _ _ h => by cases h
theorem PaC.no {α : Type} {en' : Nat} {S : α → α → Prop} {y : List Tk} {r : PaR α} : PaC en' S y r (.bad 12 en') := fun _ _ _ _ => .inl rfl
theorem PaZ.no {α : Type} {en' : Nat} {S : α → α → Prop} {r : PaR α} : PaZ en' S r (.bad 12 en') := fun _ _ _ _ => .inl rfl
theorem PaC.ok {α : Type} {en' : Nat} {S : α → α → Prop} (hS : ∀ a, S a a) {y : List Tk} (a : α) (x : List Tk) (n : Nat) : PaC en' S y (.ok a (x ++ y) n) (.ok a x n) := by
 intro b q m e
 injection e with e1 e2 e3
 subst e1 e2 e3
 by_cases hx : x = []
 · subst hx; exact .inr (.inl ⟨_, _, rfl, Nat.le_refl _, hS _⟩)
 · exact .inr (.inr ⟨x, hx, rfl, rfl⟩)
theorem PaZ.stay {α : Type} {en' : Nat} {S : α → α → Prop} {q0 : List Tk} {m0 m' : Nat} {r : PaR α} {a' : α} (hs : PaS q0 m0 r) (hm : m' ≤ m0) (h : ∀ a, S a a') : PaZ en' S r (.ok a' [] m') := fun a q m e => .inr ⟨a', m', rfl, Nat.le_trans hm (hs a q m e).2, h a⟩
variable {y : List Tk}
end Go.Proofs.YtannifhcjcbkcaaGreatDoor
