/- Of any two dimensions: they have one text just if they are one. Condition: the variables that the row lists read as listed. -/
import Derived.Test.YtbljphnfijiciaaDoorM3
import Derived.Test.YtbljphnfijiciaaDoorCards
import Derived.Test.YtbljphnfijiciaaDoorTie
import Derived.ChangeMaps5
import Derived.Lay
import Derived.SevenTiedAt
/- Of any two dimensions: they have one text just if they are one. Condition: the variables that the row lists read as listed. -/
namespace Go.Proofs.YtbljphnfijiciaaDoor.lawDimTexts
open Go.ChangeShapes Go.WideShapes Go.ChangeAt Go.RowKit Limb
set_option linter.unusedVariables false
theorem i64_wf {xs : List Int} (h : ∀ x ∈ xs, (Lit.int .i64 x).wf = true) : I64 xs := fun x hx => by
 have := h x hx
 have e1 : IntKind.i64.min = -9223372036854775808 := rfl
 have e2 : IntKind.i64.max = 9223372036854775807 := rfl
 simp only [Lit.wf, Bool.and_eq_true, decide_eq_true_eq] at this
 omega
theorem texts_eq {a b : List Int} (ha : a.length = 7) (hb : b.length = 7) : ((strOf (dimT a)).toList == (strOf (dimT b)).toList) = decide (a = b) := by
 rw [Bool.eq_iff_iff, beq_iff_eq, decide_eq_true_eq]
 constructor
 · intro h
   rw [ByteArray.toList_eq, ByteArray.toList_eq] at h
   have h2 := congrArg (List.map UInt8.toNat) h
   have h3 : bytesOf (strOf (dimT a)) = bytesOf (strOf (dimT b)) := h2
   rw [bytesOf_strOf (dimT_bytes a), bytesOf_strOf (dimT_bytes b)] at h3
   exact dimT_inj ha hb h3
 · rintro rfl; rfl
set_option maxHeartbeats 4000000 in
set_option maxRecDepth 100000 in
theorem walk (xs_a : List Int) (xs_b : List Int) (w : World) (l_a : xs_a.length = 7) (f_a : ∀ x ∈ xs_a, (Lit.int .i64 x).wf = true) (l_b : xs_b.length = 7) (f_b : ∀ x ∈ xs_b, (Lit.int .i64 x).wf = true) (HT : DTab w) :
 Calls Tryd.prog 5 #[.agg (dimV xs_a), .agg (dimV xs_b)] w fun e w' => e = .returned (.bool true) ∧ Below w.heap.size w w' := by
 have HL_a := Lib.hid l_a
 have H64_a := Lib.hid (i64_wf f_a)
 have HM_a := Lib.hid (many7 l_a)
 have HU_a := Lib.hid (fits7 l_a)
 clear l_a f_a
 have HL_b := Lib.hid l_b
 have H64_b := Lib.hid (i64_wf f_b)
 have HM_b := Lib.hid (many7 l_b)
 have HU_b := Lib.hid (fits7 l_b)
 clear l_b f_b
 obtain ⟨S1, hS1⟩ : ∃ S, strOf (dimT xs_a) = S := ⟨_, rfl⟩
 have HS1 := Lib.hid hS1
 obtain ⟨S2, hS2⟩ : ∃ S, strOf (dimT xs_b) = S := ⟨_, rfl⟩
 have HS2 := Lib.hid hS2
 obtain ⟨v, hv⟩ : ∃ v, decide (xs_a = xs_b) = v := ⟨_, rfl⟩
 have hq : (S1.toList == S2.toList) = v := by rw [← hS1, ← hS2, ← hv]; exact texts_eq HL_a.out HL_b.out
 have HV := Lib.hid hv
 clear hS1 hS2 hv
 have bw := bel_refl w
 have h_ra : RowA (w.alloc (.cells (dimV xs_a) 23)) w.heap.size 23 (dimV xs_a) := rowA_new _ _ _
 have bn := below_new w (.cells (dimV xs_a) 23)
 replace HT := HT.below bn
 replace bw := below_two bw bn
 clear bn
 have h_rb : RowA ((w.alloc (.cells (dimV xs_a) 23)).alloc (.cells (dimV xs_b) 23)) (w.alloc (.cells (dimV xs_a) 23)).heap.size 23 (dimV xs_b) := rowA_new _ _ _
 have bn := below_new (w.alloc (.cells (dimV xs_a) 23)) (.cells (dimV xs_b) 23)
 replace HT := HT.below bn
 replace h_ra := h_ra.below bn
 replace bw := below_two bw bn
 clear bn
 simp only [World.size_alloc] at h_rb
 go_enter Tryd.func5, Tryd.ntmps5
 go_wp2_with fail
 generalize (w.alloc (.cells (dimV xs_a) 23)).alloc (.cells (dimV xs_b) 23) = w1 at *
 obtain ⟨q_b, eg⟩ : ∃ g, g = w.heap.size + 1 := ⟨_, rfl⟩
 rw [← eg] at h_rb ⊢
 have e_b := eg
 clear eg
 obtain ⟨q_a, eg⟩ : ∃ g, g = w.heap.size := ⟨_, rfl⟩
 rw [← eg] at h_ra ⊢
 have e_a := eg
 clear eg
 clear e_a e_b
 generalize w1 = wS at *
 refine region_freeg 12 1 [5, 6, 7, 8, 9, 10, 11, 12, 13, 14, 15, 16] ?aF4 (fun wx => Below wS.heap.size wS wx) (fun k vv wx => match k with
  | 0 => vv = .agg (dimV xs_a)
  | 1 => vv = .string S1
  | 2 => vv = .agg (dimV xs_b)
  | 3 => vv = .string S2
  | 4 => vv = .bool v
  | 5 => vv = .agg (dimV xs_a)
  | 6 => vv = .agg (dimV xs_b)
  | 7 => vv = .bool v
  | 8 => vv = .bool true
  | 9 => vv = .bool true
  | 10 => vv = .bool true
  | _ => vv = .bool true)
  (fun k => false) (by kernel_rfl) ?haF4 rfl (by kernel_rfl) (by kernel_rfl) (fun _ _ _ _ _ h => h) ?hSb4 ?hPb4 ?hS4 ?hop4 ?hfin4
 case haF4 =>
  intro vals
  simp only [fillAll, List.getElem?_cons_zero, List.getElem?_cons_succ, Act.put, List.setIfInBounds_toArray, List.set_cons_zero, List.set_cons_succ]
  exact rfl
 case hSb4 => exact fun wx w2 hb hS => below_two hS hb
 case hPb4 =>
  intro k v wa wb hb h
  match k, h with
  | 0, h => exact h
  | 1, h => exact h
  | 2, h => exact h
  | 3, h => exact h
  | 4, h => exact h
  | 5, h => exact h
  | 6, h => exact h
  | 7, h => exact h
  | 8, h => exact h
  | 9, h => exact h
  | 10, h => exact h
  | _ + 11, h => exact h
 case hS4 => exact (Below.refl _ _).drew
 case hop4 =>
  refine .cons (k := 0) (.plain rfl ?_) (.cons (k := 1) (.plain rfl ?_) (.cons (k := 2) (.plain rfl ?_) (.cons (k := 3) (.plain rfl ?_) (.cons (k := 4) (.plain rfl ?_) (.cons (k := 5) (.plain rfl ?_) (.cons (k := 6) (.plain rfl ?_) (.cons (k := 7) (.plain rfl ?_) (.cons (k := 8) (.plain rfl ?_) (.cons (k := 9) (.plain rfl ?_) (.cons (k := 10) (.yes (fun vals wr hS hd g b e => by cases e; exact hd 9 (by decide +kernel)) ?_) (.cons (k := 11) (.plain rfl ?_) (.nil))))))))))))
  all_goals intro vals wr hS hd KC hK
  all_goals (show Oper.wp _ _ _ _ _ _; dsimp only)
  · refine wp_loadV 23 _ rfl q_a 0 (by kernel_rfl) (dimV xs_a) (Lib.hid (h_ra.below hS).inV) (Lib.hid HM_a.out) ?_
    refine hK _ _ rfl (Below.refl _ _) (by first | rfl | simp) (fun h => by cases h)
  · have d0 : vals 0 = _ := hd 0 (by decide +kernel)
    rw [d0]
    go_simp
    go_at_call 14
    with_reducible refine (dText_c HL_a.out H64_a.out S1 HS1.out (HT.below hS)).mono ?_
    rintro e w2 ⟨rfl, bn_r⟩
    refine hK _ _ rfl bn_r rfl (fun h => by cases h)
  · refine wp_loadV 23 _ rfl q_b 0 (by kernel_rfl) (dimV xs_b) (Lib.hid (h_rb.below hS).inV) (Lib.hid HM_b.out) ?_
    refine hK _ _ rfl (Below.refl _ _) (by first | rfl | simp) (fun h => by cases h)
  · have d2 : vals 2 = _ := hd 2 (by decide +kernel)
    rw [d2]
    go_simp
    go_at_call 14
    with_reducible refine (dText_c HL_b.out H64_b.out S2 HS2.out (HT.below hS)).mono ?_
    rintro e w2 ⟨rfl, bn_r⟩
    refine hK _ _ rfl bn_r rfl (fun h => by cases h)
  · have d1 : vals 1 = _ := hd 1 (by decide +kernel)
    have d3 : vals 3 = _ := hd 3 (by decide +kernel)
    rw [d1, d3]
    go_simp
    refine hK _ _ rfl (Below.refl _ _) (by first | rfl | simp) (fun h => by cases h)
  · refine wp_loadV 23 _ rfl q_a 0 (by kernel_rfl) (dimV xs_a) (Lib.hid (h_ra.below hS).inV) (Lib.hid HM_a.out) ?_
    refine hK _ _ rfl (Below.refl _ _) (by first | rfl | simp) (fun h => by cases h)
  · refine wp_loadV 23 _ rfl q_b 0 (by kernel_rfl) (dimV xs_b) (Lib.hid (h_rb.below hS).inV) (Lib.hid HM_b.out) ?_
    refine hK _ _ rfl (Below.refl _ _) (by first | rfl | simp) (fun h => by cases h)
  · have d5 : vals 5 = _ := hd 5 (by decide +kernel)
    have d6 : vals 6 = _ := hd 6 (by decide +kernel)
    rw [d5, d6]
    have heq := fun W => equal_dim (xs := xs_a) (ys := xs_b) HL_a.out HL_b.out (b := v) HV.out W
    go_simp
    refine hK _ _ rfl (Below.refl _ _) (by first | rfl | simp) (fun h => by cases h)
  · have d4 : vals 4 = _ := hd 4 (by decide +kernel)
    have d7 : vals 7 = _ := hd 7 (by decide +kernel)
    rw [d4, d7]
    go_simp
    refine hK _ _ rfl (Below.refl _ _) (by first | rfl | simp) (fun h => by cases h)
  · have d8 : vals 8 = _ := hd 8 (by decide +kernel)
    rw [d8]
    go_simp
    refine hK _ _ rfl (Below.refl _ _) (by first | rfl | simp) (fun h => by cases h)
  · go_simp
    go_at_call 16
    with_reducible refine (wakes_any _ (HT.below hS)).mono ?_
    rintro e w2 ⟨rfl, bn_r⟩
    refine hK _ _ rfl bn_r rfl (fun h => by cases h)
  · have d9 : vals 9 = _ := hd 9 (by decide +kernel)
    have d10 : vals 10 = _ := hd 10 (by decide +kernel)
    rw [d9, d10]
    go_simp
    refine hK _ _ rfl (Below.refl _ _) (by first | rfl | simp) (fun h => by cases h)
 case hfin4 =>
  intro vals wr hS hP hne
  have ez_11 : vals 11 = _ := hP 11 (by decide)
  have HB := Lib.hid (below_two bw hS)
  try dsimp only
  rw [ez_11]
  refine wpAny_ready (rs := [12]) (by kernel_rfl) (by simp) (AllReady.cons rfl (fun KC hK => ?_) AllReady.nil)
  go_simp
  refine hK _ _ ?_
  clear hK KC
  refine wpAny_done (by kernel_rfl) ?_ _
  go_wp2
  go_ret
  exact ⟨rfl, HB.out⟩
theorem tab_of {W : World} (h : laidMet Tryd.prog Rows.dimTextsRow.laid W) : DTab W := by
 refine ⟨?_, ?_⟩
 · first | exact units_tab (laidMet_drop 0 h) (by decide +kernel) | exact units_tab (laidMet_drop 1 h) (by decide +kernel) | exact units_tab (laidMet_drop 2 h) (by decide +kernel) | exact units_tab (laidMet_drop 3 h) (by decide +kernel) | exact units_tab (laidMet_drop 4 h) (by decide +kernel) | exact units_tab (laidMet_drop 5 h) (by decide +kernel) | exact units_tab (laidMet_drop 6 h) (by decide +kernel) | exact units_tab (laidMet_drop 7 h) (by decide +kernel) | exact units_tab (laidMet_drop 8 h) (by decide +kernel) | exact units_tab (laidMet_drop 9 h) (by decide +kernel) | exact units_tab (laidMet_drop 10 h) (by decide +kernel) | exact units_tab (laidMet_drop 11 h) (by decide +kernel) | exact units_tab (laidMet_drop 12 h) (by decide +kernel) | exact units_tab (laidMet_drop 13 h) (by decide +kernel)
 · first | exact pow10_tab (laidMet_drop 0 h) (by decide +kernel) | exact pow10_tab (laidMet_drop 1 h) (by decide +kernel) | exact pow10_tab (laidMet_drop 2 h) (by decide +kernel) | exact pow10_tab (laidMet_drop 3 h) (by decide +kernel) | exact pow10_tab (laidMet_drop 4 h) (by decide +kernel) | exact pow10_tab (laidMet_drop 5 h) (by decide +kernel) | exact pow10_tab (laidMet_drop 6 h) (by decide +kernel) | exact pow10_tab (laidMet_drop 7 h) (by decide +kernel) | exact pow10_tab (laidMet_drop 8 h) (by decide +kernel) | exact pow10_tab (laidMet_drop 9 h) (by decide +kernel) | exact pow10_tab (laidMet_drop 10 h) (by decide +kernel) | exact pow10_tab (laidMet_drop 11 h) (by decide +kernel) | exact pow10_tab (laidMet_drop 12 h) (by decide +kernel) | exact pow10_tab (laidMet_drop 13 h) (by decide +kernel)
set_option maxRecDepth 100000 in
theorem lifted (os : Os) (started : os.Started) (H : Type) (enc : TypeId × Value → H) :
 ReturnsInHanded {} Tryd.checked os 5 .any (fun w args => (Rows.dimTextsSpec.pre enc Tryd.prog Tryd.f5 [] false w args ∧ laidMetH Tryd.prog Rows.dimTextsRow.laid w) ∧ sizedMet enc Tryd.prog Tryd.f5 (OpenSpec.ofChange Rows.dimTextsSpec) false w args)
  (Rows.dimTextsSpec.post enc Tryd.prog Tryd.f5 false true false false) := by
 refine returnsInHanded_of_change_and (C := Tryd.checked) (X := fun w _ => laidMetH Tryd.prog Rows.dimTextsRow.laid w) (fun _ _ _ hh h => h.of_heap hh) own started (by kernel_rfl) Tryd.func5
  (ChangeSpec.witness_shaped (enc := enc) (C := Tryd.checked) (os := os) (X := fun w _ => laidMetH Tryd.prog Rows.dimTextsRow.laid w) false (World.laidAll Tryd.prog os Rows.dimTextsRow.laid) #[.agg #[.int .i64 0, .int .i64 0, .int .i64 0, .int .i64 0, .int .i64 0, .int .i64 0, .int .i64 0], .agg #[.int .i64 0, .int .i64 0, .int .i64 0, .int .i64 0, .int .i64 0, .int .i64 0, .int .i64 0]] 8 (World.laidAll_os _ _ _)
    (World.shaped_of_ZipB (by kernel_rfl) (by kernel_rfl)) (by kernel_rfl) (by kernel_rfl) (by kernel_rfl)
    (by rw [MakeChecks.laidMetH_plain _ _ _ (by kernel_rfl)]; exact laidMet_laidAll _ (by kernel_rfl) (by kernel_rfl))) ?_
 intro W base args ds gs before hval0 hW _ _ hL _
 have hval : ∀ (j : Nat) t v, Tryd.f5.params[j]? = some t → args[j]? = some v → Value.okWide Tryd.prog W .any base t v := hval0
 have hW' := hW
 obtain ⟨p, q, hA0, hV, rfl, hfz, hnd⟩ := hW
 have hA : DataW.TrodAll enc Tryd.prog W 0 (fun _ => true) true Tryd.f5.params.toList args.toList ds p := hA0
 rw [Tryd.params5] at hA hval
 obtain ⟨v0, vs0, d0, ds0, p0, q0, hargs, rfl, rfl, h0, r0⟩ := trodAll_cons hA
 obtain ⟨v1, vs1, d1, ds1, p1, q1, rfl, rfl, rfl, h1, r1⟩ := trodAll_cons r0
 obtain ⟨rfl, rfl, rfl⟩ := trodAll_nil r1
 obtain rfl : args = #[v0, v1] := by cases args; simp_all
 obtain ⟨rfl, rfl⟩ := trodVars_none hV
 obtain ⟨z0, rfl, w0, u0⟩ := open_arr (n := 7) (K := .i64) Tryd.underlying23 Tryd.underlying3 (by kernel_rfl) (by kernel_rfl) (hval 0 23 v0 rfl rfl) h0
 obtain ⟨z1, rfl, w1, u1⟩ := open_arr (n := 7) (K := .i64) Tryd.underlying23 Tryd.underlying3 (by kernel_rfl) (by kernel_rfl) (hval 1 23 v1 rfl rfl) h1
 clear hA0 hval0
 simp only [List.append_nil] at hW'
 rw [MakeChecks.laidMetH_plain _ _ _ (by kernel_rfl)] at hL
 refine (walk z0 z1 W w0 u0 w1 u1 (tab_of hL)).mono fun e W' ⟨he, bel⟩ => ?_
 subst he
 exact ⟨_, rfl, _, _, _, [], _, [], hW', trodAll_mk1 (shut_bool Tryd.underlying4 _), (trodAll_cons_mk (Below.trod laidOut (by kernel_rfl) (of_decide_eq_true (by kernel_rfl)) h0 bel (places_lt h0)) (trodAll_cons_mk (Below.trod laidOut (by kernel_rfl) (of_decide_eq_true (by kernel_rfl)) h1 bel (places_lt h1)) trodAll_mk0)), rfl, bel.frame _, fun h => by cases h⟩
theorem over : Rows.dimTextsRow.holds Tryd.pinned (OpenSpec.ofChange Rows.dimTextsSpec) :=
 OpenClaim.holds_of_wide 5 Tryd.f5 rfl rfl rfl rfl rfl rfl rfl ⟨rfl, rfl, rfl, rfl, rfl⟩ rfl rfl rfl rfl rfl (by kernel_rfl) Tryd.func5 (by kernel_rfl)
  (of_decide_eq_true (by kernel_rfl)) (by unfold Func.isWrapper; first | (rw [if_pos (by decide +kernel)]; kernel_rfl) | (rw [if_neg (by decide +kernel)]; exact ⟨rfl, rfl⟩))
  (fun os started H enc _ => lifted os started H enc)
theorem proved : Rows.DimTextsCardSaid :=
 Claim7.holds_tied_plain_at .later [] Rows.dimTextsCard.laidKinds true Rows.dimTextsCard.stood.harness Rows.dimTextsCard.stood.looks
  over (fun _ h => by cases h) (by kernel_rfl) (fun _ h => by cases h) dimTexts_row_tie rfl ⟨rfl, rfl⟩ (by kernel_rfl) rfl
  (fun f fn hf hfn => by
    obtain rfl : f = 5 := Option.some.inj ((show Tryd.prog.funcNamed Rows.dimTextsRow.func = some 5 by kernel_rfl).symm.trans hf) |>.symm
    obtain rfl : fn = Tryd.f5 := (Option.some.inj (Tryd.func5.symm.trans hfn)).symm
    exact ⟨by kernel_rfl, fun j t ht => by
     have hm : t ∈ Tryd.f5.params.toList := by simpa using Array.mem_of_getElem? ht
     have hall : (Tryd.f5.params.toList.all fun u => !Tryd.prog.wantsStandIn u) = true := by kernel_rfl
     exact (show Tryd.prog.wantsStandIn t = false by simpa using List.all_eq_true.1 hall t hm)⟩)
  (by kernel_rfl)
end Go.Proofs.YtbljphnfijiciaaDoor.lawDimTexts
