/- Part 11 of the texts that the statements of this seat lean on: mathematics, and what functions answer, as contracts over memory; each part says its own conditions. -/
import Derived.Test.YtjikaojffgjndaaGreatDoorM10
import Derived.LoopIn
import Derived.Lib.IndexLaws
import Derived.BigQuiet
import Derived.Deep.QuietTactic
/- What package decimal's Exact tells, as a contract over memory. Conditions: sizes of at most so many limbs; the table of powers of ten. -/
namespace Go.Proofs.YtjikaojffgjndaaGreatDoor
open Go.RowKit Limb
set_option linter.unusedVariables false
theorem one_list : (⟨#[49]⟩ : ByteArray).toList = [49] := by decide +kernel
theorem is_one {d : Nat} (h : d = 1) : ((strOf (decT d)).toList == [49]) = true := by
 rw [← one_list]
 subst h
 have e : strOf (decT 1) = ⟨#[49]⟩ := by decide +kernel
 rw [e]; exact beq_self_eq_true _
theorem not_one {d : Nat} (h : d ≠ 1) : ((strOf (decT d)).toList == [49]) = false := by
 rw [← one_list]
 have hb := str_beq (decT_bytes d) (decT_bytes 1)
 have e : strOf (decT 1) = ⟨#[49]⟩ := by decide +kernel
 rw [e] at hb
 rw [hb, decide_eq_false]
 intro h2
 have h3 := congrArg decV h2
 rw [decV_decT, decV_decT] at h3
 exact h h3
theorem zT_len_le2 (x : Int) : (zT x).length ≤ (decT x.natAbs).length + 1 := by
 unfold zT
 split
 · simp
 · omega
theorem ex_sizes2 {q : Rat} (h : fitsQ q = true) {T1 T2 : ByteArray} (h1 : strOf (zT q.num) = T1) (h2 : strOf (decT q.den) = T2) : T1.size ≤ 1000 ∧ T2.size ≤ 1000 := by
 simp only [fitsQ, Bool.and_eq_true, decide_eq_true_eq] at h
 have a := decT_len_limbs h.1
 have b := decT_len_limbs h.2
 have c := zT_len_le2 q.num
 rw [← h1, ← h2, size_strOf, size_strOf]
 omega
section
variable {w : World} {s s' : Bool} {A B A' B' : Option Addr} {n c m d n' c' m' d' : Nat} {xs ys xs' ys' : List Nat} {x y z : Int} {q : Rat} {o : Option Rat} {l : Nat} {a b L L' : Nat}
set_option maxHeartbeats 4000000 in
set_option maxRecDepth 100000 in
theorem dExact_c (hx : QQ w s A n c xs B m d ys o L) (h1 : L ≤ 1000) (T : Tab w) (S : ByteArray) (hS : strOf (exO o) = S) :
 Calls Tryz.prog 18 #[.agg #[.bool s, .slice A n c, .slice B m d]] w fun e w' => e = .returned (.string S) ∧ Below w.heap.size w w' := by
 cases o with
 | none =>
  have HS := Lib.hid hS
  clear hS
  have b0 := below_new w (.cells #[Value.bool s, Value.slice A n c, Value.slice B m d] 27)
  have HW := Lib.hid b0
  have HQ := Lib.hid (hx.below HW.out)
  have HTb := Lib.hid (T.below HW.out)
  have r0 := (row3_new w 27 (.bool s) (.slice A n c) (.slice B m d))
  have HR0 := Lib.hid r0
  clear b0 r0 hx T
  go_enter Tryz.func18, Tryz.ntmps18
  have c00 := HR0.out.c0
  have c01 := HR0.out.c1
  have c02 := HR0.out.c2
  go_wp2_with fail
  clear c00 c01 c02
  generalize w.alloc (.cells #[Value.bool s, Value.slice A n c, Value.slice B m d] 27) = w1 at *
  refine (rGood_c HQ.out (by omega) false rfl).mono ?_
  rintro e w2 ⟨rfl, bn⟩
  replace HW := Lib.hid (below_two HW.out bn)
  clear bn
  go_wp2
  go_ret
  exact ⟨by rw [← HS.out]; rfl, HW.out⟩
 | some q =>
  have HS : RowKit.Hid (strOf (exO (Option.some q)) = S) := hS
  clear hS
  obtain ⟨T1, hT1⟩ : ∃ T, strOf (zT q.num) = T := ⟨_, rfl⟩
  obtain ⟨T2, hT2⟩ : ∃ T, strOf (decT q.den) = T := ⟨_, rfl⟩
  obtain ⟨z1, z2⟩ := ex_sizes2 hx.some.2.2.2.1 hT1 hT2
  have HT1 := Lib.hid hT1
  have HT2 := Lib.hid hT2
  clear hT1 hT2
  by_cases hd : q.den = 1
  · have hS1 : RowKit.Hid (T1 = S) := by
     show _ = _
     rw [← HS.out, ← HT1.out]; show strOf _ = strOf (exT q); unfold exT; rw [if_pos hd, List.append_nil]
    have hc1 : (T2.toList == [49]) = true := by
     rw [← HT2.out]; exact is_one hd
    clear hd
    have b0 := below_new w (.cells #[Value.bool s, Value.slice A n c, Value.slice B m d] 27)
    have HW := Lib.hid b0
    have HQ := Lib.hid (hx.below HW.out)
    have HTb := Lib.hid (T.below HW.out)
    have r0 := (row3_new w 27 (.bool s) (.slice A n c) (.slice B m d))
    have HR0 := Lib.hid r0
    clear b0 r0 hx T
    go_enter Tryz.func18, Tryz.ntmps18
    have c00 := HR0.out.c0
    have c01 := HR0.out.c1
    have c02 := HR0.out.c2
    go_wp2_with fail
    clear c00 c01 c02
    generalize w.alloc (.cells #[Value.bool s, Value.slice A n c, Value.slice B m d] 27) = w1 at *
    refine (rGood_c HQ.out (by omega) true rfl).mono ?_
    rintro e wS ⟨rfl, bn⟩
    obtain ⟨-, -, -, -, t5, t6, -⟩ := (HQ.out.below bn).some
    have HX := Lib.hid t5
    have HY := Lib.hid t6
    replace HR0 := Lib.hid (HR0.out.below bn)
    replace HTb := Lib.hid (HTb.out.below bn)
    replace HW := Lib.hid (below_two HW.out bn)
    clear bn t5 t6 HQ
    go_wp2
    refine region_free 6 2 [8, 9, 10, 11, 12, 13] ?aF20 (fun wx => Below wS.heap.size wS wx) (fun k vv wx => match k with
     | 0 => vv = .pointer (some ⟨w.heap.size, 0, none⟩)
     | 1 => vv = .agg #[.bool s, .slice A n c]
     | 2 => vv = .string T1
     | 3 => vv = .pointer (some ⟨w.heap.size, 2, none⟩)
     | 4 => vv = .slice B m d
     | _ => vv = .string T2)
     (fun k => false) (by kernel_rfl) ?haF20 rfl (by kernel_rfl) (by kernel_rfl) (fun _ _ _ _ _ h => h) ?hSb20 ?hPb20 ?hS20 ?hop20 ?hfin20
    case haF20 =>
     intro vals
     simp only [fillAll, List.getElem?_cons_zero, List.getElem?_cons_succ, Act.put, List.setIfInBounds_toArray, List.set_cons_zero, List.set_cons_succ]
     exact rfl
    case hSb20 => exact fun wx w2 hb hS => below_two hS hb
    case hPb20 =>
     intro k v wa wb hb h
     match k, h with
     | 0, h => exact h
     | 1, h => exact h
     | 2, h => exact h
     | 3, h => exact h
     | 4, h => exact h
     | _ + 5, h => exact h
    case hS20 => exact (Below.refl _ _).drew
    case hop20 =>
     refine .cons (k := 0) ?_ (.cons (k := 1) ?_ (.cons (k := 2) ?_ (.cons (k := 3) ?_ (.cons (k := 4) ?_ (.cons (k := 5) ?_ (.nil))))))
     all_goals intro vals wr hS hd KC hK
     all_goals (show Oper.wp _ _ _ _ _ _; dsimp only)
     · go_simp
       refine hK _ _ rfl (Below.refl _ _) (by first | rfl | simp) (fun h => by cases h)
     · have d0 : vals 0 = _ := hd 0 (by decide +kernel)
       rw [d0]
       have z0 := (HR0.out.below hS).c0
       have z1 := (HR0.out.below hS).c1
       go_simp
       refine hK _ _ rfl (Below.refl _ _) (by first | rfl | simp) (fun h => by cases h)
     · have d1 : vals 1 = _ := hd 1 (by decide +kernel)
       rw [d1]
       go_simp
       go_at_call 37
       with_reducible refine (wText_c (HTb.out.below hS) (HX.out.below hS) (by decide) T1 HT1.out).mono ?_
       rintro e w2 ⟨rfl, bn_r⟩
       refine hK _ _ rfl bn_r rfl (fun h => by cases h)
     · go_simp
       refine hK _ _ rfl (Below.refl _ _) (by first | rfl | simp) (fun h => by cases h)
     · have d3 : vals 3 = _ := hd 3 (by decide +kernel)
       rw [d3]
       have z0 := (HR0.out.below hS).c2
       go_simp
       refine hK _ _ rfl (Below.refl _ _) (by first | rfl | simp) (fun h => by cases h)
     · have d4 : vals 4 = _ := hd 4 (by decide +kernel)
       rw [d4]
       go_simp
       go_at_call 55
       with_reducible refine (digText_c (HTb.out.below hS) (HY.out.below hS) (by decide) T2 HT2.out).mono ?_
       rintro e w2 ⟨rfl, bn_r⟩
       refine hK _ _ rfl bn_r rfl (fun h => by cases h)
    case hfin20 =>
     intro vals wr hS hP hne
     have ez_2 : vals 2 = _ := hP 2 (by decide)
     have ez_5 : vals 5 = _ := hP 5 (by decide)
     have HB := Lib.hid (below_two HW.out hS)
     try dsimp only
     rw [ez_2, ez_5]
     refine wpAny_take (i := 6) rfl (by kernel_rfl) (by kernel_rfl) (by kernel_rfl) (fun _ _ _ h => h) (.inl ⟨rfl, fun _ => rfl⟩) ?_
     simp only [Act.put, List.setIfInBounds_toArray]
     refine wpAny_take (i := 7) rfl (by kernel_rfl) (by kernel_rfl) (by kernel_rfl) (fun _ _ _ h => h) (.inl ⟨rfl, fun _ => rfl⟩) ?_
     simp only [Act.put]
     refine wpAny_done (by kernel_rfl) ?_ _
     go_wp2
     go_ret
     exact ⟨by rw [← hS1.out]; rfl, HB.out⟩
  · have hS1 : RowKit.Hid (T1 ++ (⟨#[47]⟩ : ByteArray) ++ T2 = S) := by
     show _ = _
     rw [← HS.out, ← HT1.out, ← HT2.out]; show strOf _ ++ strOf [47] ++ strOf _ = strOf (exT q); unfold exT; rw [if_neg hd, strOf_append, strOf_append, List.append_assoc]; rfl
    have hc1 : (T2.toList == [49]) = false := by
     rw [← HT2.out]; exact not_one hd
    clear hd
    have b0 := below_new w (.cells #[Value.bool s, Value.slice A n c, Value.slice B m d] 27)
    have HW := Lib.hid b0
    have HQ := Lib.hid (hx.below HW.out)
    have HTb := Lib.hid (T.below HW.out)
    have r0 := (row3_new w 27 (.bool s) (.slice A n c) (.slice B m d))
    have HR0 := Lib.hid r0
    clear b0 r0 hx T
    go_enter Tryz.func18, Tryz.ntmps18
    have c00 := HR0.out.c0
    have c01 := HR0.out.c1
    have c02 := HR0.out.c2
    go_wp2_with fail
    clear c00 c01 c02
    generalize w.alloc (.cells #[Value.bool s, Value.slice A n c, Value.slice B m d] 27) = w1 at *
    refine (rGood_c HQ.out (by omega) true rfl).mono ?_
    rintro e wS ⟨rfl, bn⟩
    obtain ⟨-, -, -, -, t5, t6, -⟩ := (HQ.out.below bn).some
    have HX := Lib.hid t5
    have HY := Lib.hid t6
    replace HR0 := Lib.hid (HR0.out.below bn)
    replace HTb := Lib.hid (HTb.out.below bn)
    replace HW := Lib.hid (below_two HW.out bn)
    clear bn t5 t6 HQ
    go_wp2
    refine region_free 6 2 [8, 9, 10, 11, 12, 13] ?aF21 (fun wx => Below wS.heap.size wS wx) (fun k vv wx => match k with
     | 0 => vv = .pointer (some ⟨w.heap.size, 0, none⟩)
     | 1 => vv = .agg #[.bool s, .slice A n c]
     | 2 => vv = .string T1
     | 3 => vv = .pointer (some ⟨w.heap.size, 2, none⟩)
     | 4 => vv = .slice B m d
     | _ => vv = .string T2)
     (fun k => false) (by kernel_rfl) ?haF21 rfl (by kernel_rfl) (by kernel_rfl) (fun _ _ _ _ _ h => h) ?hSb21 ?hPb21 ?hS21 ?hop21 ?hfin21
    case haF21 =>
     intro vals
     simp only [fillAll, List.getElem?_cons_zero, List.getElem?_cons_succ, Act.put, List.setIfInBounds_toArray, List.set_cons_zero, List.set_cons_succ]
     exact rfl
    case hSb21 => exact fun wx w2 hb hS => below_two hS hb
    case hPb21 =>
     intro k v wa wb hb h
     match k, h with
     | 0, h => exact h
     | 1, h => exact h
     | 2, h => exact h
     | 3, h => exact h
     | 4, h => exact h
     | _ + 5, h => exact h
    case hS21 => exact (Below.refl _ _).drew
    case hop21 =>
     refine .cons (k := 0) ?_ (.cons (k := 1) ?_ (.cons (k := 2) ?_ (.cons (k := 3) ?_ (.cons (k := 4) ?_ (.cons (k := 5) ?_ (.nil))))))
     all_goals intro vals wr hS hd KC hK
     all_goals (show Oper.wp _ _ _ _ _ _; dsimp only)
     · go_simp
       refine hK _ _ rfl (Below.refl _ _) (by first | rfl | simp) (fun h => by cases h)
     · have d0 : vals 0 = _ := hd 0 (by decide +kernel)
       rw [d0]
       have z0 := (HR0.out.below hS).c0
       have z1 := (HR0.out.below hS).c1
       go_simp
       refine hK _ _ rfl (Below.refl _ _) (by first | rfl | simp) (fun h => by cases h)
     · have d1 : vals 1 = _ := hd 1 (by decide +kernel)
       rw [d1]
       go_simp
       go_at_call 37
       with_reducible refine (wText_c (HTb.out.below hS) (HX.out.below hS) (by decide) T1 HT1.out).mono ?_
       rintro e w2 ⟨rfl, bn_r⟩
       refine hK _ _ rfl bn_r rfl (fun h => by cases h)
     · go_simp
       refine hK _ _ rfl (Below.refl _ _) (by first | rfl | simp) (fun h => by cases h)
     · have d3 : vals 3 = _ := hd 3 (by decide +kernel)
       rw [d3]
       have z0 := (HR0.out.below hS).c2
       go_simp
       refine hK _ _ rfl (Below.refl _ _) (by first | rfl | simp) (fun h => by cases h)
     · have d4 : vals 4 = _ := hd 4 (by decide +kernel)
       rw [d4]
       go_simp
       go_at_call 55
       with_reducible refine (digText_c (HTb.out.below hS) (HY.out.below hS) (by decide) T2 HT2.out).mono ?_
       rintro e w2 ⟨rfl, bn_r⟩
       refine hK _ _ rfl bn_r rfl (fun h => by cases h)
    case hfin21 =>
     intro vals wr hS hP hne
     have ez_2 : vals 2 = _ := hP 2 (by decide)
     have ez_5 : vals 5 = _ := hP 5 (by decide)
     have HB := Lib.hid (below_two HW.out hS)
     try dsimp only
     rw [ez_2, ez_5]
     refine wpAny_take (i := 6) rfl (by kernel_rfl) (by kernel_rfl) (by kernel_rfl) (fun _ _ _ h => h) (.inl ⟨rfl, fun _ => rfl⟩) ?_
     simp only [Act.put, List.setIfInBounds_toArray]
     refine wpAny_take (i := 7) rfl (by kernel_rfl) (by kernel_rfl) (by kernel_rfl) (fun _ _ _ h => h) (.inl ⟨rfl, fun _ => rfl⟩) ?_
     simp only [Act.put]
     refine wpAny_done (by kernel_rfl) ?_ _
     go_wp2
     go_ret
     exact ⟨by rw [← hS1.out]; rfl, HB.out⟩
end
end Go.Proofs.YtjikaojffgjndaaGreatDoor

/- What package whole's Parse answers, as a contract over memory: whole numbers in the shortest limbs, 0 not below 0. Conditions: sizes of at most so many limbs; the table of powers of ten where texts are made or read. -/
namespace Go.Proofs.YtjikaojffgjndaaGreatDoor
open Go.RowKit Limb
set_option linter.unusedVariables false
set_option maxHeartbeats 4000000 in
set_option maxRecDepth 100000 in
theorem wParse_c (t : ByteArray) (w : World) (T : Tab w) (v : Bool) (hv : zOk (bytesOf t) = v) (z : Int) (hz : zV (bytesOf t) = z) :
 Calls Tryz.prog 44 #[.string t] w fun e w' => ∃ A2 n2 c2, e = .returned (.tuple #[.agg #[.bool (sg z), .slice A2 n2 c2], .bool v]) ∧ ZZ w' (sg z) A2 n2 c2 (limbs z.natAbs) z 223 ∧ Below w.heap.size w w' := by
 have HT := Lib.hid T
 have HW := Lib.hid (below_new w zbox)
 have HZ : RowKit.Hid (ZB (w.alloc zbox) w.heap.size) := row2_new w _ _ _
 clear T
 by_cases hm : (bytesOf t).head? = some 45
 · rw [zOk_minus hm] at hv
   rw [zV_minus hm] at hz
   have HC := Lib.hid (cutMinus_yes t hm (w.alloc zbox))
   clear hm
   obtain ⟨k, hk⟩ : ∃ k, numOk (bytesOf t).tail = k := ⟨_, rfl⟩
   obtain ⟨m, hm⟩ : ∃ m, numV (bytesOf t).tail = m := ⟨_, rfl⟩
   rw [hk, hm] at hv
   rw [hm] at hz
   have HK := Lib.hid hk
   have HM := Lib.hid hm
   have hk0 : k = false → m = 0 := fun h => by rw [← hm]; exact numV_no (hk.trans h)
   clear hk hm
   go_enter Tryz.func44, Tryz.ntmps44
   go_wp2_with fail
   refine HC.out.mono ?_
   rintro e w2 ⟨R, rfl, hR, rfl⟩
   have HK2 : RowKit.Hid (numOk (bytesOf R) = k) := by
    show _ = _
    rw [hR]; exact HK.out
   have HM2 : RowKit.Hid (numV (bytesOf R) = m) := by
    show _ = _
    rw [hR]; exact HM.out
   clear hR HK HM
   go_wp2_with fail
   refine (digParse_c R _ (HT.out.below HW.out) k HK2.out m HM2.out).mono ?_
   rintro e w3 ⟨A2, n2, c2, rfl, h2, bn⟩
   have BN3 := Lib.hid bn
   clear bn
   obtain ⟨e0, e1, f0, f1⟩ := (HZ.out.below BN3.out).cells
   by_cases hk1 : k = true
   · subst hk1
     by_cases em : m = 0
     · subst em
       have ev : v = false := by rw [← hv]; simp
       subst ev
       have ez : z = 0 := by rw [← hz]; rfl
       subst ez
       have HBits := Lib.hid (bits_c h2 (by decide) 0 rfl)
       clear hv hz hk0
       go_wp2_with fail
       refine HBits.out.mono ?_
       rintro e w4 ⟨rfl, rfl⟩
       have HF := Lib.hid ((HZ.out.below BN3.out).fill (.bool false) (.slice none 0 0))
       have HB := Lib.hid (below_fill (g := w.heap.size) (below_two HW.out BN3.out) (by omega) (.bool false) (.slice none 0 0))
       clear h2
       go_wp2
       refine bodyPost_ret (results_mixed rfl _ _ w.heap.size 25 #[.bool false, .slice none 0 0] (0, 0) _ (.bool false) rfl rfl HF.out Tryz.underlying25 rfl int_size) rfl ?_
       exact ⟨none, 0, 0, rfl, ⟨⟨IsN.nil _ _, rfl, Nat.le_refl _, Nat.zero_le _⟩, rfl⟩, HB.out⟩
     · have ev : v = true := by rw [← hv]; simp [em]
       subst ev
       obtain ⟨b, hb⟩ : ∃ b : Int, ((blen m : Nat) : Int) = b := ⟨_, rfl⟩
       have hb0 : (b == 0) = false := by
        rw [beq_eq_false_iff_ne, ← hb]
        have := mt blen_eq_zero.1 em
        omega
       have HBits := Lib.hid (bits_c h2 (by decide) b hb)
       have HS : RowKit.Hid (zOf true m = z) := by
        show _ = _
        rw [← hz]; rfl
       clear hv hz hk0 hb
       go_wp2_with fail
       refine HBits.out.mono ?_
       rintro e w4 ⟨rfl, rfl⟩
       go_wp2_with fail
       refine (signed_c h2 _ z (by first | exact HS.out | simpa using HS.out)).mono ?_
       rintro e w5 ⟨rfl, h4, bm⟩
       have BN4 := Lib.hid (below_two BN3.out bm)
       clear e0 e1 f0 f1
       obtain ⟨e0, e1, f0, f1⟩ := (HZ.out.below BN4.out).cells
       have HF := Lib.hid ((HZ.out.below BN4.out).fill (.bool (sg z)) (.slice A2 n2 c2))
       have HP := Lib.hid (h4.put (HZ.out.below BN4.out) (.bool (sg z)) (.slice A2 n2 c2))
       have HB := Lib.hid (below_fill (g := w.heap.size) (below_two HW.out BN4.out) (by omega) (.bool (sg z)) (.slice A2 n2 c2))
       clear bm
       go_wp2
       refine bodyPost_ret (results_mixed rfl _ _ w.heap.size 25 #[.bool (sg z), .slice A2 n2 c2] (0, 0) _ (.bool true) rfl rfl HF.out Tryz.underlying25 rfl int_size) rfl ?_
       exact ⟨A2, n2, c2, rfl, HP.out, HB.out⟩
   · have hk2 : k = false := by simpa using hk1
     have em : m = 0 := hk0 hk2
     subst hk2
     subst em
     have ev : v = false := by rw [← hv]; rfl
     subst ev
     have ez : z = 0 := by rw [← hz]; rfl
     subst ez
     clear hv hz hk0 hk1
     have HF := Lib.hid ((HZ.out.below BN3.out).fill (.bool false) (.slice none 0 0))
     have HB := Lib.hid (below_fill (g := w.heap.size) (below_two HW.out BN3.out) (by omega) (.bool false) (.slice none 0 0))
     clear h2
     go_wp2
     refine bodyPost_ret (results_mixed rfl _ _ w.heap.size 25 #[.bool false, .slice none 0 0] (0, 0) _ (.bool false) rfl rfl HF.out Tryz.underlying25 rfl int_size) rfl ?_
     exact ⟨none, 0, 0, rfl, ⟨⟨IsN.nil _ _, rfl, Nat.le_refl _, Nat.zero_le _⟩, rfl⟩, HB.out⟩
 · rw [zOk_plain hm] at hv
   rw [zV_plain hm] at hz
   have HC := Lib.hid (cutMinus_no t hm (w.alloc zbox))
   clear hm
   obtain ⟨k, hk⟩ : ∃ k, numOk (bytesOf t) = k := ⟨_, rfl⟩
   obtain ⟨m, hm⟩ : ∃ m, numV (bytesOf t) = m := ⟨_, rfl⟩
   rw [hk] at hv
   rw [hm] at hz
   have HK := Lib.hid hk
   have HM := Lib.hid hm
   have hk0 : k = false → m = 0 := fun h => by rw [← hm]; exact numV_no (hk.trans h)
   clear hk hm
   go_enter Tryz.func44, Tryz.ntmps44
   go_wp2_with fail
   refine HC.out.mono ?_
   rintro e w2 ⟨rfl, rfl⟩
   have HK2 := HK
   have HM2 := HM
   go_wp2_with fail
   refine (digParse_c t _ (HT.out.below HW.out) k HK2.out m HM2.out).mono ?_
   rintro e w3 ⟨A2, n2, c2, rfl, h2, bn⟩
   have BN3 := Lib.hid bn
   clear bn
   obtain ⟨e0, e1, f0, f1⟩ := (HZ.out.below BN3.out).cells
   by_cases hk1 : k = true
   · subst hk1
     have ev : v = true := hv.symm
     subst ev
     have HS : RowKit.Hid (zOf false m = z) := by
      show _ = _
      rw [← hz]; rfl
     clear hv hz hk0
     go_wp2_with fail
     refine (signed_c h2 _ z (by first | exact HS.out | simpa using HS.out)).mono ?_
     rintro e w5 ⟨rfl, h4, bm⟩
     have BN4 := Lib.hid (below_two BN3.out bm)
     clear e0 e1 f0 f1
     obtain ⟨e0, e1, f0, f1⟩ := (HZ.out.below BN4.out).cells
     have HF := Lib.hid ((HZ.out.below BN4.out).fill (.bool (sg z)) (.slice A2 n2 c2))
     have HP := Lib.hid (h4.put (HZ.out.below BN4.out) (.bool (sg z)) (.slice A2 n2 c2))
     have HB := Lib.hid (below_fill (g := w.heap.size) (below_two HW.out BN4.out) (by omega) (.bool (sg z)) (.slice A2 n2 c2))
     clear bm
     go_wp2
     refine bodyPost_ret (results_mixed rfl _ _ w.heap.size 25 #[.bool (sg z), .slice A2 n2 c2] (0, 0) _ (.bool true) rfl rfl HF.out Tryz.underlying25 rfl int_size) rfl ?_
     exact ⟨A2, n2, c2, rfl, HP.out, HB.out⟩
   · have hk2 : k = false := by simpa using hk1
     have em : m = 0 := hk0 hk2
     subst hk2
     subst em
     have ev : v = false := by rw [← hv]
     subst ev
     have ez : z = 0 := by rw [← hz]; rfl
     subst ez
     clear hv hz hk0 hk1
     have HF := Lib.hid ((HZ.out.below BN3.out).fill (.bool false) (.slice none 0 0))
     have HB := Lib.hid (below_fill (g := w.heap.size) (below_two HW.out BN3.out) (by omega) (.bool false) (.slice none 0 0))
     clear h2
     go_wp2
     refine bodyPost_ret (results_mixed rfl _ _ w.heap.size 25 #[.bool false, .slice none 0 0] (0, 0) _ (.bool false) rfl rfl HF.out Tryz.underlying25 rfl int_size) rfl ?_
     exact ⟨none, 0, 0, rfl, ⟨⟨IsN.nil _ _, rfl, Nat.le_refl _, Nat.zero_le _⟩, rfl⟩, HB.out⟩
end Go.Proofs.YtjikaojffgjndaaGreatDoor

/- What the statements' helpers of layer 10 answer (number, below; Long of layer 7), as contracts over memory. Conditions: decimal texts of numbers that are not too great; the table of powers of ten. -/
namespace Go.Proofs.YtjikaojffgjndaaGreatDoor
open Go.RowKit Limb
set_option linter.unusedVariables false
def room (v : Int) : Prop := v.natAbs < 4294967296 ^ 70
theorem room_of {t : Rat} {v : Int} (ht : Bd t 63 63) (h1 : t.floor ≤ v) (h2 : v ≤ t.floor + 1) : room v := by
 have h3 := floor_abs t
 have h4 := small_add ht.1
 have h5 : v.natAbs < 4294967296 ^ 64 := by omega
 exact Nat.lt_of_lt_of_le h5 (Nat.pow_le_pow_right (by decide) (by decide))
theorem room_len {v : Int} (h : room v) : (decT v.natAbs).length ≤ 701 := decT_len_limbs h
theorem room_numOk {v : Int} (h : room v) {p : Nat} (hp : p ≤ 60) {l : List Nat} (hl : l = padL p (decT v.natAbs)) : numOk l = true ∧ numV l = v.natAbs := by
 have h1 := room_len h
 have h2 := padL_len p (decT v.natAbs)
 rw [← hl] at h2
 have hok : numOk l = true := numOk_good (by omega) (by omega) (by rw [hl]; exact padL_dig (decT_dig _))
 exact ⟨hok, by rw [numV_yes hok, hl, padL_val, decV_decT]⟩
theorem room_size {v : Int} (h : room v) {p : Nat} (hp : p ≤ 60) {S : ByteArray} (hS : strOf (pointT v p) = S) : S.size ≤ 1000 := by
 have h1 := room_len h
 have h2 := point_len v p
 rw [← hS, size_strOf]; omega
set_option maxHeartbeats 4000000 in
set_option maxRecDepth 4000 in
theorem number_c (v : Int) (p : Nat) (hp : p ≤ 60) (hv : room v) (S : ByteArray) (hS : strOf (pointT v p) = S) (V : Int) (hV : V = p) (w : World) (T : Tab w) (x : Rat) (hx : numR v p = (some x, 0)) :
 Calls Tryz.prog 28 #[.string S, .int .i64 V] w fun e w' => ∃ A2 n2 c2 B2 m2 d2, e = .returned (.tuple #[.agg #[.bool (sg (oTop (some x))), .slice A2 n2 c2, .slice B2 m2 d2], .bool true]) ∧ QT w' A2 n2 c2 B2 m2 d2 (some x) ∧ Below w.heap.size w w' := by
 subst hV
 have b0 := below_new w (.cells #[Value.bool false, Value.slice none 0 0, Value.slice none 0 0] 27)
 have HW := Lib.hid b0
 have HT := Lib.hid (T.below b0)
 have rz := row3_new w 27 (.bool false) (.slice none 0 0) (.slice none 0 0)
 have Hq : RowKit.Hid (w.heap.size ≤ w.heap.size) := Nat.le_refl _
 have hsz := room_size hv hp hS
 have HB : RowKit.Hid (bytesOf S = pointT v p) := by show _ = _; rw [← hS]; exact bytesOf_strOf (point_bytes v p)
 have HL : RowKit.Hid ((pointT v p).length = S.size) := by show _ = _; rw [← HB.out, length_bytesOf]
 have HX := Lib.hid hx
 have HV := Lib.hid hv
 clear b0 T hS hx hv
 go_enter Tryz.func28, Tryz.ntmps28
 go_wp2
 generalize w.alloc (.cells #[Value.bool false, Value.slice none 0 0, Value.slice none 0 0] 27) = w1 at *
 have HZ := Lib.hid rz
 clear rz
 go_loopw [6, 7, 8, 9, 10] (fun av nv bv pv iv wr => ∃ (i pl : Nat) (D : ByteArray) (ng pt : Bool), i ≤ S.size ∧ av = .string D ∧ nv = .bool ng ∧ bv = .int .i64 (pl : Int) ∧ pv = .bool pt ∧ iv = .int .i64 (i : Int) ∧ RowKit.Hid (litRead ((pointT v p).take i) = ⟨bytesOf D, pl, 0, ng, pt, false⟩) ∧ D.size ≤ i ∧ pl ≤ i ∧ w1 = wr) (fun _ _ _ _ iv _ => S.size - (intOf iv).toNat)
 case atStart => exact ⟨0, 0, ⟨#[]⟩, false, false, Nat.zero_le _, rfl, rfl, rfl, rfl, rfl, rfl, Nat.le_refl _, Nat.le_refl _, rfl⟩
 case round =>
  obtain ⟨i, pl, D, ng, pt, hi, rfl, rfl, rfl, rfl, rfl, HN, hDi, hpi, rfl⟩ := hrel
  by_cases hlt : i < S.size
  · obtain ⟨d, hd⟩ : ∃ d, (S[i]'hlt).toNat = d := ⟨_, rfl⟩
    have hdl : lim (pointT v p) i = d := by rw [← HB.out, ← Limb.byte_at S i hlt, hd]
    have hpb := point_byte (by rw [HL.out]; exact hlt) hdl
    have HS : RowKit.Hid (litRead ((pointT v p).take (i + 1)) = litStep ⟨bytesOf D, pl, 0, ng, pt, false⟩ d) := by
     show _ = _
     rw [read_step (by rw [HL.out]; exact hlt), HN.out, hdl]
    rw [HN.out] at hpb
    clear hdl
    rcases hpb with ⟨e1, e2⟩ | ⟨e1, e2⟩ | ⟨e1, e2⟩
    · subst e2
      have HN2 : RowKit.Hid (litRead ((pointT v p).take (0 + 1)) = ⟨bytesOf D, pl, 0, true, pt, false⟩) := by
       show _ = _
       rw [HS.out, e1]; rfl
      subst e1
      clear HS HN
      go_wp2
      go_roundw
      case rel => exact ⟨0 + 1, pl, D, true, pt, by omega, rfl, rfl, by go_num, rfl, by go_num, HN2, by omega, by omega, by first | rfl | trivial⟩
      case measure => simp [intOf]; omega
    · have e3 : pt = false := e2
      subst e3
      have HN2 : RowKit.Hid (litRead ((pointT v p).take (i + 1)) = ⟨bytesOf D, pl, 0, ng, true, false⟩) := by
       show _ = _
       rw [HS.out, e1]; rfl
      subst e1
      clear HS HN e2
      go_wp2
      go_roundw
      case rel => exact ⟨i + 1, pl, D, ng, true, by omega, rfl, rfl, by go_num, rfl, by go_num, HN2, by omega, by omega, by first | rfl | trivial⟩
      case measure => simp [intOf]; omega
    · have q45 : ((d : Int) == 45) = false := by rw [beq_eq_false_iff_ne]; omega
      have q46 : ((d : Int) == 46) = false := by rw [beq_eq_false_iff_ne]; omega
      have hcb : bytesOf (S.extract i (i + 1)) = [d] := byte_cut S i hlt (by rw [← Limb.byte_at S i hlt, hd])
      have hcs : (S.extract i (i + 1)).size = 1 := by rw [← length_bytesOf, hcb]; rfl
      have hst := (step_dig (t := ⟨bytesOf D, pl, 0, ng, pt, false⟩) (c := d) (by simp [isDig, e1, e2])).trans (if_neg Bool.false_ne_true)
      obtain ⟨c, hc⟩ : ∃ c, S.extract i (i + 1) = c := ⟨_, rfl⟩
      rw [hc] at hcb hcs
      have hDs : (D ++ c).size = D.size + 1 := by rw [ByteArray.size_append, hcs]
      cases pt with
      | true =>
       have HN2 : RowKit.Hid (litRead ((pointT v p).take (i + 1)) = ⟨bytesOf (D ++ c), pl + 1, 0, ng, true, false⟩) := by
        show _ = _
        rw [HS.out, hst, bytesOf_append, hcb]; rfl
       clear HS HN hst hcb
       go_wp2
       go_roundw
       case rel => exact ⟨i + 1, pl + 1, D ++ c, ng, true, by omega, rfl, rfl, by go_num, rfl, by go_num, HN2, by omega, by omega, by first | rfl | trivial⟩
       case measure => simp [intOf]; omega
      | false =>
       have HN2 : RowKit.Hid (litRead ((pointT v p).take (i + 1)) = ⟨bytesOf (D ++ c), pl + 0, 0, ng, false, false⟩) := by
        show _ = _
        rw [HS.out, hst, bytesOf_append, hcb]; rfl
       clear HS HN hst hcb
       go_wp2
       go_roundw
       case rel => exact ⟨i + 1, pl, D ++ c, ng, false, by omega, rfl, rfl, by go_num, rfl, by go_num, HN2, by omega, by omega, by first | rfl | trivial⟩
       case measure => simp [intOf]; omega
  · obtain rfl : i = S.size := by omega
    have hT := HN.out
    rw [← HL.out, List.take_length, point_read] at hT
    injection hT with e1 e2 _ e3 e4 _
    obtain ⟨hok, hnv⟩ := room_numOk HV.out hp e1.symm
    have HOK := Lib.hid hok
    have HNV := Lib.hid hnv
    subst e2 e3
    clear hok hnv e1 HN
    go_wp2_with fail
    refine (digParse_c D w1 HT.out true HOK.out v.natAbs HNV.out).mono ?_
    rintro e w2 ⟨A1, n1, c1, rfl, h1, bn⟩
    have H1 := Lib.hid h1
    replace HT := Lib.hid (HT.out.below bn)
    replace HZ := Lib.hid (HZ.out.below bn)
    replace HW := Lib.hid (below_two HW.out bn)
    clear bn
    clear h1
    go_wp2_with fail
    refine (digTen_yes p _ rfl (by omega) w2 HT.out).mono ?_
    rintro e w3 ⟨A3, n3, c3, rfl, h3, bn⟩
    have H3 := Lib.hid h3
    replace H1 := Lib.hid (H1.out.below bn)
    replace HT := Lib.hid (HT.out.below bn)
    replace HZ := Lib.hid (HZ.out.below bn)
    replace HW := Lib.hid (below_two HW.out bn)
    clear bn
    clear h3
    have HP4 := Lib.hid e4
    clear e4
    by_cases p0 : p = 0
    · subst p0
      obtain rfl : false = pt := by rw [← HP4.out]; rfl
      go_wp2_with fail
      refine (rOf_c (ZZ.mk' H1.out) H3.out (by decide) (by decide) (some x) 0 HX.out).mono ?_
      rintro e w5 ⟨A5, n5, c5, B5, m5, d5, rfl, h5, bn⟩
      replace HZ := Lib.hid (HZ.out.below bn)
      replace HW := Lib.hid (below_two HW.out bn)
      clear bn
      have bn := below_new w5 (.cells #[Value.bool (sg (oTop (some x))), Value.slice A5 n5 c5, Value.slice B5 m5 d5] 27)
      have hr := row3_new w5 27 (.bool (sg (oTop (some x)))) (.slice A5 n5 c5) (.slice B5 m5 d5)
      have h6 := h5.below bn
      replace HZ := Lib.hid (HZ.out.below bn)
      replace HW := Lib.hid (below_two HW.out bn)
      clear bn
      have c0 := hr.c0
      have c1 := hr.c1
      have c2 := hr.c2
      have hNo := HZ.out.noLimb (by intro v e; cases e) (by intro v e; cases e) (by intro v e; cases e)
      have e0 := HZ.out.c0
      have e1 := HZ.out.c1
      have e2 := HZ.out.c2
      have f0 := HZ.out.free 0
      have f1 := HZ.out.free 1
      have f2 := HZ.out.free 2
      have HF := Lib.hid (HZ.out.fill (.bool (sg (oTop (some x)))) (.slice A5 n5 c5) (.slice B5 m5 d5))
      have HQ := Lib.hid (QQ.fillR3 h6 hNo (.bool (sg (oTop (some x)))) (.slice A5 n5 c5) (.slice B5 m5 d5))
      have HB2 := Lib.hid (below_fill3' HW.out Hq.out (.bool (sg (oTop (some x)))) (.slice A5 n5 c5) (.slice B5 m5 d5))
      clear hNo h5 h6 hr
      go_wp2
      refine bodyPost_ret (results_mixed rfl _ _ _ 27 #[.bool (sg (oTop (some x))), .slice A5 n5 c5, .slice B5 m5 d5] (0, 0) _ (.bool true) rfl rfl HF.out Tryz.underlying27 rfl rat_size) rfl ?_
      exact ⟨A5, n5, c5, B5, m5, d5, rfl, HQ.out, HB2.out⟩
    · have p1 : (0 : Int) < (p : Int) := by omega
      have p2 : 0 < p := by omega
      have p3 : decide (0 < p) = true := decide_eq_true p2
      have p4 : decide ((0 : Int) < (p : Int)) = true := decide_eq_true p1
      obtain rfl : true = pt := by rw [← HP4.out, decide_eq_true (by omega)]
      go_wp2_with fail
      refine (rOf_c (ZZ.mk' H1.out) H3.out (by decide) (by decide) (some x) 0 HX.out).mono ?_
      rintro e w5 ⟨A5, n5, c5, B5, m5, d5, rfl, h5, bn⟩
      replace HZ := Lib.hid (HZ.out.below bn)
      replace HW := Lib.hid (below_two HW.out bn)
      clear bn
      have bn := below_new w5 (.cells #[Value.bool (sg (oTop (some x))), Value.slice A5 n5 c5, Value.slice B5 m5 d5] 27)
      have hr := row3_new w5 27 (.bool (sg (oTop (some x)))) (.slice A5 n5 c5) (.slice B5 m5 d5)
      have h6 := h5.below bn
      replace HZ := Lib.hid (HZ.out.below bn)
      replace HW := Lib.hid (below_two HW.out bn)
      clear bn
      have c0 := hr.c0
      have c1 := hr.c1
      have c2 := hr.c2
      have hNo := HZ.out.noLimb (by intro v e; cases e) (by intro v e; cases e) (by intro v e; cases e)
      have e0 := HZ.out.c0
      have e1 := HZ.out.c1
      have e2 := HZ.out.c2
      have f0 := HZ.out.free 0
      have f1 := HZ.out.free 1
      have f2 := HZ.out.free 2
      have HF := Lib.hid (HZ.out.fill (.bool (sg (oTop (some x)))) (.slice A5 n5 c5) (.slice B5 m5 d5))
      have HQ := Lib.hid (QQ.fillR3 h6 hNo (.bool (sg (oTop (some x)))) (.slice A5 n5 c5) (.slice B5 m5 d5))
      have HB2 := Lib.hid (below_fill3' HW.out Hq.out (.bool (sg (oTop (some x)))) (.slice A5 n5 c5) (.slice B5 m5 d5))
      clear hNo h5 h6 hr
      go_wp2
      refine bodyPost_ret (results_mixed rfl _ _ _ 27 #[.bool (sg (oTop (some x))), .slice A5 n5 c5, .slice B5 m5 d5] (0, 0) _ (.bool true) rfl rfl HF.out Tryz.underlying27 rfl rat_size) rfl ?_
      exact ⟨A5, n5, c5, B5, m5, d5, rfl, HQ.out, HB2.out⟩
set_option maxHeartbeats 4000000 in
set_option maxRecDepth 100000 in
theorem below_c (v u : Int) (p : Nat) (hp : p ≤ 60) (hv : room v) (hu : room u) (S : ByteArray) (hS : strOf (pointT v p) = S) (U : ByteArray) (hU : strOf (pointT u p) = U) (V : Int) (hV : V = p) (w : World) (T : Tab w) (x y : Rat) (hx : numR v p = (some x, 0)) (hy : numR u p = (some y, 0)) (hc : cmpR (some x) (some y) ≤ 0) :
 Calls Tryz.prog 39 #[.string S, .string U, .int .i64 V] w fun e w' => e = .returned (.bool true) ∧ Below w.heap.size w w' := by
 have HTab := Lib.hid T
 clear T
 obtain ⟨c, hcc⟩ : ∃ c, cmpR (some x) (some y) = c := ⟨_, rfl⟩
 rw [hcc] at hc
 have HCC := Lib.hid hcc
 have bw := bel_refl w
 have Khv := Lib.hid hv
 have Khu := Lib.hid hu
 have KhS := Lib.hid hS
 have KhU := Lib.hid hU
 have Khx := Lib.hid hx
 have Khy := Lib.hid hy
 clear hcc hv hu hS hU hx hy
 subst hV
 go_enter Tryz.func39, Tryz.ntmps39
 go_wp2_with fail
 refine (number_c v p hp Khv.out S KhS.out _ rfl _ HTab.out x Khx.out).mono ?_
 rintro e w1 ⟨A_x, n_x, c_x, B_x, m_x, d_x, rfl, h_x, bn⟩
 replace HTab := Lib.hid (HTab.out.below bn)
 replace bw := below_two bw bn
 clear bn
 have h_rx := row3_new w1 27 (.bool (sg (oTop (some x)))) (.slice A_x n_x c_x) (.slice B_x m_x d_x)
 have bn := below_new w1 (.cells #[Value.bool (sg (oTop (some x))), Value.slice A_x n_x c_x, Value.slice B_x m_x d_x] 27)
 replace h_x := h_x.below bn
 replace HTab := Lib.hid (HTab.out.below bn)
 replace bw := below_two bw bn
 clear bn
 go_wp2_with fail
 generalize w1.alloc (.cells #[Value.bool (sg (oTop (some x))), Value.slice A_x n_x c_x, Value.slice B_x m_x d_x] 27) = w2 at *
 obtain ⟨q_x, eg⟩ : ∃ g, g = w1.heap.size := ⟨_, rfl⟩
 rw [← eg] at h_rx ⊢
 clear eg
 refine (number_c u p hp Khu.out U KhU.out _ rfl _ HTab.out y Khy.out).mono ?_
 rintro e w3 ⟨A_y, n_y, c_y, B_y, m_y, d_y, rfl, h_y, bn⟩
 replace h_x := h_x.below bn
 replace h_rx := h_rx.below bn
 replace HTab := Lib.hid (HTab.out.below bn)
 replace bw := below_two bw bn
 clear bn
 have h_ry := row3_new w3 27 (.bool (sg (oTop (some y)))) (.slice A_y n_y c_y) (.slice B_y m_y d_y)
 have bn := below_new w3 (.cells #[Value.bool (sg (oTop (some y))), Value.slice A_y n_y c_y, Value.slice B_y m_y d_y] 27)
 replace h_x := h_x.below bn
 replace h_rx := h_rx.below bn
 replace h_y := h_y.below bn
 replace HTab := Lib.hid (HTab.out.below bn)
 replace bw := below_two bw bn
 clear bn
 have c_x0 := h_rx.c0
 have c_x1 := h_rx.c1
 have c_x2 := h_rx.c2
 have c_y0 := h_ry.c0
 have c_y1 := h_ry.c1
 have c_y2 := h_ry.c2
 go_wp2_with fail
 clear c_x0 c_x1 c_x2 c_y0 c_y1 c_y2
 generalize w3.alloc (.cells #[Value.bool (sg (oTop (some y))), Value.slice A_y n_y c_y, Value.slice B_y m_y d_y] 27) = w4 at *
 obtain ⟨q_y, eg⟩ : ∃ g, g = w3.heap.size := ⟨_, rfl⟩
 rw [← eg] at h_ry ⊢
 clear eg
 refine (rCmp_c h_x h_y (by decide) (by decide) c HCC.out).mono ?_
 rintro e w5 ⟨rfl, bn⟩
 replace h_x := h_x.below bn
 replace h_rx := h_rx.below bn
 replace h_y := h_y.below bn
 replace h_ry := h_ry.below bn
 replace HTab := Lib.hid (HTab.out.below bn)
 replace bw := below_two bw bn
 clear bn
 go_wp2
 go_ret
 exact ⟨rfl, bw⟩
theorem qlong_w (s : Bool) (A B : Option Addr) (n c m d : Nat) (v : Bool) (hv : (decide (70 < n) || decide (70 < m)) = v) (w : World) :
 Calls Tryz.prog 9 #[.agg #[.bool s, .slice A n c, .slice B m d]] w fun e w' => e = .returned (.bool v) ∧ Below w.heap.size w w' := by
 have HW := Lib.hid (below_new w (.cells #[Value.bool s, Value.slice A n c, Value.slice B m d] 27))
 have Hv := Lib.hid hv
 clear hv
 by_cases h1 : 70 < n
 · have e1 : decide ((70 : Int) < (n : Int)) = true := by rw [decide_eq_true_eq]; omega
   have HV : RowKit.Hid (true = v) := by
    show _ = _
    rw [← Hv.out, decide_eq_true h1]; rfl
   clear h1 Hv
   go_enter Tryz.func9, Tryz.ntmps9
   go_wp2
   go_ret
   exact ⟨by rw [← HV.out]; rfl, HW.out⟩
 · have e1 : decide ((70 : Int) < (n : Int)) = false := by rw [decide_eq_false_iff_not]; omega
   have HV : RowKit.Hid (decide ((70 : Int) < (m : Int)) = v) := by
    show _ = _
    rw [← Hv.out, decide_eq_false h1, Bool.false_or, decide_eq_decide]; omega
   clear h1 Hv
   go_enter Tryz.func9, Tryz.ntmps9
   go_wp2
   go_ret
   exact ⟨by rw [← HV.out]; rfl, HW.out⟩
end Go.Proofs.YtjikaojffgjndaaGreatDoor

/- What strings.Cut at one byte answers, as contracts over memory. Condition: a text of at most 10^9 bytes. -/
namespace Go.Proofs.YtjikaojffgjndaaGreatDoor
open Go.RowKit Limb
set_option linter.unusedVariables false
theorem indexByte_miss : ∀ {l : List UInt8} {c : UInt8}, c ∉ l → Lib.indexByte l c = -1
 | [], _, _ => rfl
 | b :: l, c, h => by
  have h1 : (b == c) = false := by rw [beq_eq_false_iff_ne]; intro e; exact h (by simp [e])
  have h2 : c ∉ l := fun e => h (List.mem_cons_of_mem _ e)
  rw [Lib.indexByte, h1, indexByte_miss h2]
  rfl
theorem indexByte_hit : ∀ {a : List UInt8} {c : UInt8} (b : List UInt8), c ∉ a → Lib.indexByte (a ++ c :: b) c = (a.length : Int)
 | [], c, b, _ => by
  show Lib.indexByte (c :: b) c = _
  rw [Lib.indexByte, beq_self_eq_true]
  rfl
 | x :: a, c, b, h => by
  have h1 : (x == c) = false := by rw [beq_eq_false_iff_ne]; intro e; exact h (by simp [e])
  have h2 : c ∉ a := fun e => h (List.mem_cons_of_mem _ e)
  show Lib.indexByte (x :: (a ++ c :: b)) c = _
  rw [Lib.indexByte, h1, indexByte_hit b h2]
  have h3 : ((a.length : Int) == -1) = false := by rw [beq_eq_false_iff_ne]; omega
  rw [h3, List.length_cons]
  simp only [Bool.false_eq_true, if_false]
  omega
theorem index_bytes_miss {s : ByteArray} {c : UInt8} (h : c.toNat ∉ bytesOf s) : Lib.indexByte s.data.toList c = -1 :=
 indexByte_miss fun e => h (List.mem_map_of_mem e)
theorem index_bytes_hit {s : ByteArray} {c : UInt8} {a b : List Nat} (h : bytesOf s = a ++ c.toNat :: b) (hn : c.toNat ∉ a) : Lib.indexByte s.data.toList c = (a.length : Int) := by
 obtain ⟨l1, l2, e1, e2, e3⟩ := List.map_eq_append_iff.1 h
 obtain ⟨y, l3, e4, e5, e6⟩ := List.map_eq_cons_iff.1 e3
 have e7 : y = c := UInt8.toNat_inj.1 e5
 subst e7
 rw [e1, e4, indexByte_hit l3 (fun e => hn (by rw [← e2]; exact List.mem_map_of_mem e)), ← e2, List.length_map]
set_option maxHeartbeats 1000000 in
set_option maxRecDepth 4000 in
theorem sCut_hit (s : ByteArray) (hs : s.size ≤ 1000000000) (c : UInt8) (a b : List Nat) (h : bytesOf s = a ++ c.toNat :: b) (hn : c.toNat ∉ a) (w : World) :
 Calls Tryz.prog 93 #[.string s, .string ⟨#[c]⟩] w fun e w' => ∃ S1 S2, e = .returned (.tuple #[.string S1, .string S2, .bool true]) ∧ bytesOf S1 = a ∧ bytesOf S2 = b ∧ Below w.heap.size w w' := by
 have hi := index_bytes_hit h hn
 have hl : a.length + 1 + b.length = s.size := by rw [← length_bytesOf, h, List.length_append, List.length_cons]; omega
 obtain ⟨k, hk⟩ : ∃ k, a.length = k := ⟨_, rfl⟩
 rw [hk] at hi hl
 have hk1 : k ≤ s.size := by omega
 have hk2 : k + 1 ≤ s.size := by omega
 have HI := Lib.hid hi
 obtain ⟨S1, hS1⟩ : ∃ S1, s.extract 0 k = S1 := ⟨_, rfl⟩
 obtain ⟨S2, hS2⟩ : ∃ S2, s.extract (k + 1) s.size = S2 := ⟨_, rfl⟩
 have H1 : RowKit.Hid (bytesOf S1 = a) := by
  show _ = _
  rw [← hS1, bytesOf_extract, List.drop_zero, Nat.sub_zero, h, ← hk, List.take_left]
 have H2 : RowKit.Hid (bytesOf S2 = b) := by
  show _ = _
  rw [← hS2, bytesOf_extract, h, ← hk]
  have e : (a ++ c.toNat :: b).drop (a.length + 1) = b := by
   rw [← List.drop_drop, List.drop_left]; rfl
  rw [e]
  exact List.take_of_length_le (by omega)
 have HN := Lib.hid (below_drewN (Below.refl w.heap.size w))
 have hk3 : (0 : Int) ≤ (k : Int) := by omega
 have hk4 : (k : Int) ≤ (s.size : Int) := by omega
 have hk5 : (0 : Int) ≤ (k : Int) + 1 := by omega
 have hk6 : (k : Int) + 1 ≤ (s.size : Int) := by omega
 clear hi h hn hk
 go_enter Tryz.func93, Tryz.ntmps93
 go_wp2_with fail
 refine (Any.stringslite_Index_one Tryz.lays219 s c w).mono ?_
 rw [HI.out]
 rintro e w1 ⟨rfl, rfl⟩
 go_wp2
 go_quiet (fail)
 have bn := HN.out nq
 generalize w1.drewN nq = w2 at *
 go_wp2
 go_ret3
 exact ⟨S1, S2, rfl, H1.out, H2.out, bn⟩
set_option maxHeartbeats 1000000 in
theorem sCut_miss (s : ByteArray) (c : UInt8) (hn : c.toNat ∉ bytesOf s) (w : World) :
 Calls Tryz.prog 93 #[.string s, .string ⟨#[c]⟩] w fun e w' => e = .returned (.tuple #[.string s, .string ⟨#[]⟩, .bool false]) ∧ w = w' := by
 have HI := Lib.hid (index_bytes_miss hn)
 clear hn
 go_enter Tryz.func93, Tryz.ntmps93
 go_wp2_with fail
 refine (Any.stringslite_Index_one Tryz.lays219 s c w).mono ?_
 rw [HI.out]
 rintro e w1 ⟨rfl, rfl⟩
 go_wp2
 go_ret3
 exact ⟨rfl, rfl⟩
theorem cutHit_c (s : ByteArray) (hs : s.size ≤ 1000000000) (c : UInt8) (a b : List Nat) (h : bytesOf s = a ++ c.toNat :: b) (hn : c.toNat ∉ a) (w : World) :
 Calls Tryz.prog 43 #[.string s, .string ⟨#[c]⟩] w fun e w' => ∃ S1 S2, e = .returned (.tuple #[.string S1, .string S2, .bool true]) ∧ bytesOf S1 = a ∧ bytesOf S2 = b ∧ Below w.heap.size w w' := by
 have HC := Lib.hid (sCut_hit s hs c a b h hn w)
 clear h hn
 go_enter Tryz.func43, Tryz.ntmps43
 go_wp2_with fail
 refine HC.out.mono ?_
 rintro e w1 ⟨S1, S2, rfl, h1, h2, hb⟩
 have H1 := Lib.hid h1
 have H2 := Lib.hid h2
 have HB := Lib.hid hb
 clear h1 h2 hb
 go_wp2
 go_ret3
 exact ⟨S1, S2, rfl, H1.out, H2.out, HB.out⟩
theorem cutMiss_c (s : ByteArray) (c : UInt8) (hn : c.toNat ∉ bytesOf s) (w : World) :
 Calls Tryz.prog 43 #[.string s, .string ⟨#[c]⟩] w fun e w' => e = .returned (.tuple #[.string s, .string ⟨#[]⟩, .bool false]) ∧ Below w.heap.size w w' := by
 have HC := Lib.hid (sCut_miss s c hn w)
 clear hn
 go_enter Tryz.func43, Tryz.ntmps43
 go_wp2_with fail
 refine HC.out.mono ?_
 rintro e w1 ⟨rfl, rfl⟩
 go_wp2
 go_ret3
 exact ⟨rfl, Below.refl _ _⟩
end Go.Proofs.YtjikaojffgjndaaGreatDoor

/- What package decimal's Parse tells, as a contract over memory. Conditions: a text of at most 10^9 bytes; the table of powers of ten. -/
namespace Go.Proofs.YtjikaojffgjndaaGreatDoor
open Go.RowKit Limb
set_option linter.unusedVariables false
theorem exR_read {l : List Nat} {q : Rat} {e : Int} (h : exR l = (Option.some q, e)) : readQ (sg (zV (cutA l))) (limbs (zV (cutA l)).natAbs) (limbs (exB l)) = Option.some q := by
 obtain ⟨h1, hf, -⟩ := exR_some h
 have hf2 := hf
 simp only [fitsQ, Bool.and_eq_true, decide_eq_true_eq] at hf2
 obtain ⟨c1, c2⟩ := cut_ex q
 rw [h1] at c1 c2
 have hn : (decT q.num.natAbs).length ≤ 2000 := Nat.le_trans (decT_len_limbs hf2.1) (by decide)
 have hd : (decT q.den).length ≤ 2000 := Nat.le_trans (decT_len_limbs hf2.2) (by decide)
 have e1 : zV (cutA l) = q.num := by rw [c1]; exact zV_T hn
 have e2 : exB l = q.den := by
  unfold exB
  rw [c2]
  by_cases h0 : q.den = 1
  · rw [if_pos h0, if_pos rfl, h0]
  · rw [if_neg h0, if_neg (by simp)]
    exact numV_dec hd
 rw [e1, e2]
 exact readQ_told hf
theorem no_text {l : List Nat} (h : zOk (cutA l) = true) : l ≠ [] := by
 rintro rfl
 revert h
 decide
theorem exR_no {l : List Nat} (h : (zOk (cutA l) && (decide (cutS l = []) || numOk ((cutS l).drop 1))) = false) : exR l = (Option.none, 12) := by
 unfold exR
 rw [if_neg]
 unfold exOk
 intro h2
 simp only [Bool.and_eq_true, Bool.or_eq_true, decide_eq_true_eq] at h2
 obtain ⟨a, b⟩ := h2
 rw [a, Bool.true_and] at h
 rcases b with b | ⟨b, _⟩
 · rw [decide_eq_true b, Bool.true_or] at h; cases h
 · rw [b, Bool.or_true] at h; cases h
theorem exR_same {l : List Nat} {o : Option Rat} (hr : readQ (sg (zV (cutA l))) (limbs (zV (cutA l)).natAbs) (limbs (exB l)) = o) (hz : zOk (cutA l) = true) : (exO o = l ∧ ∃ q, o = Option.some q ∧ exR l = (Option.some q, 0)) ∨ (exO o ≠ l ∧ exR l = (Option.none, 12)) := by
 cases o with
 | none =>
  refine .inr ⟨fun h => no_text hz h.symm, ?_⟩
  rcases exR_cases l with h | ⟨q, h⟩
  · exact h
  · rw [exR_read h] at hr; cases hr
 | some q =>
  by_cases h : exT q = l
  · refine .inl ⟨h, q, rfl, ?_⟩
    have hg : fitsQ q = true := by
     cases h2 : goodV (sg (zV (cutA l))) (limbs (zV (cutA l)).natAbs) (limbs (exB l)) with
     | false => rw [readQ_no h2] at hr; cases hr
     | true =>
      obtain ⟨q', e, _, _, _, h4, _⟩ := readQ_yes h2
      rw [e] at hr; cases hr; exact h4
    rw [← h]
    exact exR_ex hg
  · refine .inr ⟨h, ?_⟩
    rcases exR_cases l with h2 | ⟨q', h2⟩
    · exact h2
    · have h3 := exR_read h2
      rw [h3] at hr; cases hr
      exact absurd (exR_some h2).1 h
theorem cut_hit {l : List Nat} (h : 47 ∈ l) : l = cutA l ++ 47 :: (cutS l).drop 1 ∧ cutS l ≠ [] ∧ 47 ∉ cutA l := by
 induction l with
 | nil => cases h
 | cons x l ih =>
  by_cases hx : x = 47
  · subst hx; exact ⟨rfl, by simp [cutS], by simp [cutA]⟩
  · have h2 : 47 ∈ l := by
     rcases List.mem_cons.1 h with e | e
     · exact absurd e.symm hx
     · exact e
    obtain ⟨i1, i2, i3⟩ := ih h2
    have hb : (x != 47) = true := by rw [bne_iff_ne]; exact hx
    have e1 : cutA (x :: l) = x :: cutA l := List.takeWhile_cons_of_pos (p := fun x => x != 47) hb
    have e2 : cutS (x :: l) = cutS l := List.dropWhile_cons_of_pos (p := fun x => x != 47) hb
    rw [e1, e2]
    exact ⟨by rw [List.cons_append, ← i1], i2, fun e => by
     rcases List.mem_cons.1 e with e | e
     · exact hx e.symm
     · exact i3 e⟩
theorem cut_miss {l : List Nat} (h : 47 ∉ l) : cutA l = l ∧ cutS l = [] := by
 induction l with
 | nil => exact ⟨rfl, rfl⟩
 | cons x l ih =>
  have hx : x ≠ 47 := fun e => h (by simp [e])
  obtain ⟨i1, i2⟩ := ih (fun e => h (List.mem_cons_of_mem _ e))
  have hb : (x != 47) = true := by rw [bne_iff_ne]; exact hx
  exact ⟨(List.takeWhile_cons_of_pos (p := fun x => x != 47) hb).trans (by rw [show List.takeWhile (fun x => x != 47) l = cutA l from rfl, i1]), (List.dropWhile_cons_of_pos (p := fun x => x != 47) hb).trans i2⟩
theorem text_same {l : List Nat} (hb : Bytes l) {S s : ByteArray} (hS : strOf l = S) (hl : l = bytesOf s) : (S.toList == s.toList) = true := by
 have h := str_beq hb (bytes_bytesOf s)
 rw [hS, strOf_bytesOf, hl, decide_eq_true rfl] at h
 exact h
theorem text_other {l : List Nat} (hb : Bytes l) {S s : ByteArray} (hS : strOf l = S) (hl : l ≠ bytesOf s) : (S.toList == s.toList) = false := by
 have h := str_beq hb (bytes_bytesOf s)
 rw [hS, strOf_bytesOf, decide_eq_false hl] at h
 exact h
theorem exO_bytes (o : Option Rat) : Bytes (exO o) := by
 cases o with
 | none => exact bytes_nil
 | some q => exact exT_bytes q
set_option maxHeartbeats 4000000 in
set_option maxRecDepth 100000 in
theorem dParse_c (t : ByteArray) (ht : t.size ≤ 1000000000) (w : World) (T : Tab w) (r : Option Rat) (e : Int) (hR : exR (bytesOf t) = (r, e)) :
 Calls Tryz.prog 12 #[.string t] w fun ee w' => ∃ A2 n2 c2 B2 m2 d2, ee = .returned (.tuple #[.agg #[.bool (sg (oTop r)), .slice A2 n2 c2, .slice B2 m2 d2], .int .i64 e]) ∧ QT w' A2 n2 c2 B2 m2 d2 r ∧ Below w.heap.size w w' := by
 have HL : RowKit.Hid (bytesOf t = bytesOf t) := rfl
 obtain ⟨l, hl⟩ : ∃ l, bytesOf t = l := ⟨_, rfl⟩
 rw [hl] at hR
 have Hl := Lib.hid hl
 clear HL
 obtain ⟨z, hz⟩ : ∃ z, zV (cutA l) = z := ⟨_, rfl⟩
 obtain ⟨v1, hv1⟩ : ∃ v, zOk (cutA l) = v := ⟨_, rfl⟩
 obtain ⟨m, hm⟩ : ∃ m, exB l = m := ⟨_, rfl⟩
 have HZv := Lib.hid hz
 have HV1 := Lib.hid hv1
 have HM := Lib.hid hm
 have HR := Lib.hid hR
 clear hz hm hR
 have b0 := below_new w (.cells #[Value.bool false, Value.slice none 0 0, Value.slice none 0 0] 27)
 have HW := Lib.hid b0
 have HTb := Lib.hid (T.below b0)
 have HZ := Lib.hid (row3_new w 27 (.bool false) (.slice none 0 0) (.slice none 0 0))
 have Hq : RowKit.Hid (w.heap.size ≤ w.heap.size) := Nat.le_refl _
 clear b0 T
 by_cases h47 : 47 ∈ l
 · obtain ⟨k1, k2, k3⟩ := cut_hit h47
   have HC := Lib.hid (fun W => cutHit_c t (by omega) 47 (cutA l) ((cutS l).drop 1) (by rw [hl]; exact k1) k3 W)
   have HK2 := Lib.hid k2
   clear k1 k3 k2 h47 hl hv1
   go_enter Tryz.func12, Tryz.ntmps12
   go_wp2_with fail
   generalize w.alloc (.cells #[Value.bool false, Value.slice none 0 0, Value.slice none 0 0] 27) = w1 at *
   refine (HC.out _).mono ?_
   rintro ee w2 ⟨S1, S2, rfl, g1, g2, bn⟩
   have HS1 := Lib.hid g1
   replace HTb := Lib.hid (HTb.out.below bn)
   replace HZ := Lib.hid (HZ.out.below bn)
   replace HW := Lib.hid (below_two HW.out bn)
   obtain ⟨v2, hv2⟩ : ∃ v, numOk (bytesOf S2) = v := ⟨_, rfl⟩
   have HV2 := Lib.hid hv2
   have HM2 : RowKit.Hid (numV (bytesOf S2) = m) := by show _ = _; rw [← HM.out, g2]; unfold exB; rw [if_neg HK2.out]
   have HOK : RowKit.Hid ((decide (cutS l = []) || numOk ((cutS l).drop 1)) = v2) := by show _ = _; rw [← hv2, g2, decide_eq_false HK2.out, Bool.false_or]
   clear bn g1 g2 hv2
   go_wp2_with fail
   refine (wParse_c S1 _ HTb.out v1 (by rw [HS1.out]; exact HV1.out) z (by rw [HS1.out]; exact HZv.out)).mono ?_
   rintro ee w3 ⟨A2, n2, c2, rfl, h2, bn⟩
   have BX := below_new w3 (.cells #[Value.bool (sg z), Value.slice A2 n2 c2] 25)
   have H2 := Lib.hid (h2.below BX)
   have HR2 := Lib.hid (row2_new w3 25 (.bool (sg z)) (.slice A2 n2 c2))
   replace HTb := Lib.hid ((HTb.out.below bn).below BX)
   replace HZ := Lib.hid ((HZ.out.below bn).below BX)
   replace HW := Lib.hid (below_two HW.out (below_two bn BX))
   clear bn h2 BX
   go_wp2_with fail
   generalize w3.alloc (.cells #[Value.bool (sg z), Value.slice A2 n2 c2] 25) = w4 at *
   refine (digParse_c S2 _ HTb.out v2 HV2.out m HM2.out).mono ?_
   rintro ee w5 ⟨A3, n3, c3, rfl, h3, bn⟩
   have HN : RowKit.Hid (NN w5 A3 n3 c3 (limbs m) m 223) := h3
   replace H2 := Lib.hid (H2.out.below bn)
   replace HR2 := Lib.hid (HR2.out.below bn)
   replace HTb := Lib.hid (HTb.out.below bn)
   replace HZ := Lib.hid (HZ.out.below bn)
   replace HW := Lib.hid (below_two HW.out bn)
   clear bn h3
   have c0 := HR2.out.c0
   have c1 := HR2.out.c1
   have BY := below_new w5 (.cells #[Value.bool (sg z), Value.slice A2 n2 c2, Value.slice A3 n3 c3] 27)
   have HRB := Lib.hid (row3_new w5 27 (.bool (sg z)) (.slice A2 n2 c2) (.slice A3 n3 c3))
   replace HZ := Lib.hid (HZ.out.below BY)
   replace H2 := Lib.hid (H2.out.below BY)
   replace HN := Lib.hid (HN.out.below BY)
   replace HTb := Lib.hid (HTb.out.below BY)
   replace HW := Lib.hid (below_two HW.out BY)
   clear BY
   cases v1 with
   | false =>
    have hR2 := exR_no (by rw [HV1.out, Bool.false_and])
    rw [HR.out] at hR2
    cases hR2
    have e0 := HZ.out.c0
    have e1 := HZ.out.c1
    have e2 := HZ.out.c2
    have f0 := HZ.out.free 0
    have f1 := HZ.out.free 1
    have f2 := HZ.out.free 2
    have HF := Lib.hid (HZ.out.fill (.bool false) (.slice none 0 0) (.slice none 0 0))
    have HB := Lib.hid (below_fill3' HW.out Hq.out (.bool false) (.slice none 0 0) (.slice none 0 0))
    go_wp2
    refine bodyPost_ret (results_mixed rfl _ _ _ 27 #[.bool false, .slice none 0 0, .slice none 0 0] (0, 0) _ (.int .i64 12) rfl rfl HF.out Tryz.underlying27 rfl rat_size) rfl ?_
    exact ⟨none, 0, 0, none, 0, 0, rfl, qt_none _ 0 0, HB.out⟩
   | true =>
    cases v2 with
    | false =>
     have hR2 := exR_no (by rw [HV1.out, Bool.true_and]; exact HOK.out)
     rw [HR.out] at hR2
     cases hR2
     have e0 := HZ.out.c0
     have e1 := HZ.out.c1
     have e2 := HZ.out.c2
     have f0 := HZ.out.free 0
     have f1 := HZ.out.free 1
     have f2 := HZ.out.free 2
     have HF := Lib.hid (HZ.out.fill (.bool false) (.slice none 0 0) (.slice none 0 0))
     have HB := Lib.hid (below_fill3' HW.out Hq.out (.bool false) (.slice none 0 0) (.slice none 0 0))
     go_wp2
     refine bodyPost_ret (results_mixed rfl _ _ _ 27 #[.bool false, .slice none 0 0, .slice none 0 0] (0, 0) _ (.int .i64 12) rfl rfl HF.out Tryz.underlying27 rfl rat_size) rfl ?_
     exact ⟨none, 0, 0, none, 0, 0, rfl, qt_none _ 0 0, HB.out⟩
    | true =>
     have hrd := exR_same (l := l) rfl HV1.out
     rw [HM.out, HZv.out] at hrd
     obtain ⟨oo, hoo⟩ : ∃ oo, readQ (sg z) (limbs z.natAbs) (limbs m) = oo := ⟨_, rfl⟩
     rw [hoo] at hrd
     have HQ : RowKit.Hid (QQ (w5.alloc (.cells #[Value.bool (sg z), Value.slice A2 n2 c2, Value.slice A3 n3 c3] 27)) (sg z) A2 n2 c2 (limbs z.natAbs) A3 n3 c3 (limbs m) oo 223) := ⟨by rw [val_limbs, zOf_sg]; exact H2.out, by rw [val_limbs]; exact HN.out, hoo⟩
     obtain ⟨S, hS⟩ : ∃ S, strOf (exO oo) = S := ⟨_, rfl⟩
     have HS := Lib.hid hS
     have g0 := HRB.out.c0
     have g1 := HRB.out.c1
     have g2 := HRB.out.c2
     have HD := Lib.hid hrd
     clear hrd hoo hS
     go_wp2_with fail
     clear g0 g1 g2 c0 c1
     generalize w5.alloc (.cells #[Value.bool (sg z), Value.slice A2 n2 c2, Value.slice A3 n3 c3] 27) = w6 at *
     refine (dExact_c HQ.out (by decide) HTb.out S HS.out).mono ?_
     rintro ee w7 ⟨rfl, bn⟩
     replace HQ := Lib.hid (HQ.out.below bn)
     replace HRB := Lib.hid (HRB.out.below bn)
     replace HZ := Lib.hid (HZ.out.below bn)
     replace HW := Lib.hid (below_two HW.out bn)
     clear bn
     rcases HD.out with ⟨hx, q, hq, hr⟩ | ⟨hx, hr⟩
     · have hcmp : (S.toList == t.toList) = true := text_same (exO_bytes oo) HS.out (hx.trans Hl.out.symm)
       rw [HR.out] at hr
       cases hr
       subst hq
       have hsm := HQ.out.some
       have HQT : RowKit.Hid (QT w7 A2 n2 c2 A3 n3 c3 (Option.some q)) := by
        have h8 := qt_some (q := q) (L := 64) (L' := 64) (by have h9 := hsm.2.2.2.2.1; rw [hsm.1, hsm.2.1] at h9; exact h9) (by have h9 := hsm.2.2.2.2.2.1; rw [hsm.2.2.1] at h9; exact h9) hsm.2.2.2.1
        exact h8
       have hsg : sg z = sg q.num := hsm.1
       have HSG := Lib.hid hsg
       clear hx hsm hsg
       have g0 := HRB.out.c0
       have g1 := HRB.out.c1
       have g2 := HRB.out.c2
       have e0 := HZ.out.c0
       have e1 := HZ.out.c1
       have e2 := HZ.out.c2
       have f0 := HZ.out.free 0
       have f1 := HZ.out.free 1
       have f2 := HZ.out.free 2
       have hNo := HZ.out.noLimb (by intro v e; cases e) (by intro v e; cases e) (by intro v e; cases e)
       have HF := Lib.hid (HZ.out.fill (.bool (sg z)) (.slice A2 n2 c2) (.slice A3 n3 c3))
       have HP := Lib.hid (QQ.fillR3 HQT.out hNo (.bool (sg z)) (.slice A2 n2 c2) (.slice A3 n3 c3))
       have HB := Lib.hid (below_fill3' HW.out Hq.out (.bool (sg z)) (.slice A2 n2 c2) (.slice A3 n3 c3))
       clear hNo
       go_wp2
       refine bodyPost_ret (results_mixed rfl _ _ _ 27 #[.bool (sg z), .slice A2 n2 c2, .slice A3 n3 c3] (0, 0) _ (.int .i64 0) rfl rfl HF.out Tryz.underlying27 rfl rat_size) rfl ?_
       exact ⟨A2, n2, c2, A3, n3, c3, by rw [HSG.out]; rfl, HP.out, HB.out⟩
     · have hcmp : (S.toList == t.toList) = false := text_other (exO_bytes oo) HS.out (fun h => hx (h.trans Hl.out))
       clear hx
       rw [HR.out] at hr
       cases hr
       have e0 := HZ.out.c0
       have e1 := HZ.out.c1
       have e2 := HZ.out.c2
       have f0 := HZ.out.free 0
       have f1 := HZ.out.free 1
       have f2 := HZ.out.free 2
       have HF := Lib.hid (HZ.out.fill (.bool false) (.slice none 0 0) (.slice none 0 0))
       have HB := Lib.hid (below_fill3' HW.out Hq.out (.bool false) (.slice none 0 0) (.slice none 0 0))
       go_wp2
       refine bodyPost_ret (results_mixed rfl _ _ _ 27 #[.bool false, .slice none 0 0, .slice none 0 0] (0, 0) _ (.int .i64 12) rfl rfl HF.out Tryz.underlying27 rfl rat_size) rfl ?_
       exact ⟨none, 0, 0, none, 0, 0, rfl, qt_none _ 0 0, HB.out⟩
 · obtain ⟨k1, k2⟩ := cut_miss h47
   have HC := Lib.hid (fun W => cutMiss_c t 47 (by rw [hl]; exact h47) W)
   have HS1 : RowKit.Hid (bytesOf t = cutA l) := by show _ = _; rw [hl, k1]
   have HK2 := Lib.hid k2
   obtain ⟨v2, hv2⟩ : ∃ v, numOk (bytesOf ⟨#[49]⟩) = v := ⟨_, rfl⟩
   have HV2 := Lib.hid hv2
   have HOK : RowKit.Hid (true = v2) := hv2
   have HM2 : RowKit.Hid (numV (bytesOf ⟨#[49]⟩) = m) := by show _ = _; rw [← HM.out]; unfold exB; rw [if_pos k2]; decide
   clear k1 k2 h47 hl hv1 hv2
   go_enter Tryz.func12, Tryz.ntmps12
   go_wp2_with fail
   generalize w.alloc (.cells #[Value.bool false, Value.slice none 0 0, Value.slice none 0 0] 27) = w1 at *
   refine (HC.out _).mono ?_
   rintro ee w2 ⟨rfl, bn⟩
   replace HTb := Lib.hid (HTb.out.below bn)
   replace HZ := Lib.hid (HZ.out.below bn)
   replace HW := Lib.hid (below_two HW.out bn)
   clear bn
   go_wp2_with fail
   refine (wParse_c t _ HTb.out v1 (by rw [HS1.out]; exact HV1.out) z (by rw [HS1.out]; exact HZv.out)).mono ?_
   rintro ee w3 ⟨A2, n2, c2, rfl, h2, bn⟩
   have BX := below_new w3 (.cells #[Value.bool (sg z), Value.slice A2 n2 c2] 25)
   have H2 := Lib.hid (h2.below BX)
   have HR2 := Lib.hid (row2_new w3 25 (.bool (sg z)) (.slice A2 n2 c2))
   replace HTb := Lib.hid ((HTb.out.below bn).below BX)
   replace HZ := Lib.hid ((HZ.out.below bn).below BX)
   replace HW := Lib.hid (below_two HW.out (below_two bn BX))
   clear bn h2 BX
   go_wp2_with fail
   generalize w3.alloc (.cells #[Value.bool (sg z), Value.slice A2 n2 c2] 25) = w4 at *
   refine (digParse_c ⟨#[49]⟩ _ HTb.out v2 HV2.out m HM2.out).mono ?_
   rintro ee w5 ⟨A3, n3, c3, rfl, h3, bn⟩
   have HN : RowKit.Hid (NN w5 A3 n3 c3 (limbs m) m 223) := h3
   replace H2 := Lib.hid (H2.out.below bn)
   replace HR2 := Lib.hid (HR2.out.below bn)
   replace HTb := Lib.hid (HTb.out.below bn)
   replace HZ := Lib.hid (HZ.out.below bn)
   replace HW := Lib.hid (below_two HW.out bn)
   clear bn h3
   have c0 := HR2.out.c0
   have c1 := HR2.out.c1
   have BY := below_new w5 (.cells #[Value.bool (sg z), Value.slice A2 n2 c2, Value.slice A3 n3 c3] 27)
   have HRB := Lib.hid (row3_new w5 27 (.bool (sg z)) (.slice A2 n2 c2) (.slice A3 n3 c3))
   replace HZ := Lib.hid (HZ.out.below BY)
   replace H2 := Lib.hid (H2.out.below BY)
   replace HN := Lib.hid (HN.out.below BY)
   replace HTb := Lib.hid (HTb.out.below BY)
   replace HW := Lib.hid (below_two HW.out BY)
   clear BY
   cases v1 with
   | false =>
    have hR2 := exR_no (by rw [HV1.out, Bool.false_and])
    rw [HR.out] at hR2
    cases hR2
    have e0 := HZ.out.c0
    have e1 := HZ.out.c1
    have e2 := HZ.out.c2
    have f0 := HZ.out.free 0
    have f1 := HZ.out.free 1
    have f2 := HZ.out.free 2
    have HF := Lib.hid (HZ.out.fill (.bool false) (.slice none 0 0) (.slice none 0 0))
    have HB := Lib.hid (below_fill3' HW.out Hq.out (.bool false) (.slice none 0 0) (.slice none 0 0))
    go_wp2
    refine bodyPost_ret (results_mixed rfl _ _ _ 27 #[.bool false, .slice none 0 0, .slice none 0 0] (0, 0) _ (.int .i64 12) rfl rfl HF.out Tryz.underlying27 rfl rat_size) rfl ?_
    exact ⟨none, 0, 0, none, 0, 0, rfl, qt_none _ 0 0, HB.out⟩
   | true =>
    cases v2 with
    | false =>
     cases HV2.out
    | true =>
     have hrd := exR_same (l := l) rfl HV1.out
     rw [HM.out, HZv.out] at hrd
     obtain ⟨oo, hoo⟩ : ∃ oo, readQ (sg z) (limbs z.natAbs) (limbs m) = oo := ⟨_, rfl⟩
     rw [hoo] at hrd
     have HQ : RowKit.Hid (QQ (w5.alloc (.cells #[Value.bool (sg z), Value.slice A2 n2 c2, Value.slice A3 n3 c3] 27)) (sg z) A2 n2 c2 (limbs z.natAbs) A3 n3 c3 (limbs m) oo 223) := ⟨by rw [val_limbs, zOf_sg]; exact H2.out, by rw [val_limbs]; exact HN.out, hoo⟩
     obtain ⟨S, hS⟩ : ∃ S, strOf (exO oo) = S := ⟨_, rfl⟩
     have HS := Lib.hid hS
     have g0 := HRB.out.c0
     have g1 := HRB.out.c1
     have g2 := HRB.out.c2
     have HD := Lib.hid hrd
     clear hrd hoo hS
     go_wp2_with fail
     clear g0 g1 g2 c0 c1
     generalize w5.alloc (.cells #[Value.bool (sg z), Value.slice A2 n2 c2, Value.slice A3 n3 c3] 27) = w6 at *
     refine (dExact_c HQ.out (by decide) HTb.out S HS.out).mono ?_
     rintro ee w7 ⟨rfl, bn⟩
     replace HQ := Lib.hid (HQ.out.below bn)
     replace HRB := Lib.hid (HRB.out.below bn)
     replace HZ := Lib.hid (HZ.out.below bn)
     replace HW := Lib.hid (below_two HW.out bn)
     clear bn
     rcases HD.out with ⟨hx, q, hq, hr⟩ | ⟨hx, hr⟩
     · have hcmp : (S.toList == t.toList) = true := text_same (exO_bytes oo) HS.out (hx.trans Hl.out.symm)
       rw [HR.out] at hr
       cases hr
       subst hq
       have hsm := HQ.out.some
       have HQT : RowKit.Hid (QT w7 A2 n2 c2 A3 n3 c3 (Option.some q)) := by
        have h8 := qt_some (q := q) (L := 64) (L' := 64) (by have h9 := hsm.2.2.2.2.1; rw [hsm.1, hsm.2.1] at h9; exact h9) (by have h9 := hsm.2.2.2.2.2.1; rw [hsm.2.2.1] at h9; exact h9) hsm.2.2.2.1
        exact h8
       have hsg : sg z = sg q.num := hsm.1
       have HSG := Lib.hid hsg
       clear hx hsm hsg
       have g0 := HRB.out.c0
       have g1 := HRB.out.c1
       have g2 := HRB.out.c2
       have e0 := HZ.out.c0
       have e1 := HZ.out.c1
       have e2 := HZ.out.c2
       have f0 := HZ.out.free 0
       have f1 := HZ.out.free 1
       have f2 := HZ.out.free 2
       have hNo := HZ.out.noLimb (by intro v e; cases e) (by intro v e; cases e) (by intro v e; cases e)
       have HF := Lib.hid (HZ.out.fill (.bool (sg z)) (.slice A2 n2 c2) (.slice A3 n3 c3))
       have HP := Lib.hid (QQ.fillR3 HQT.out hNo (.bool (sg z)) (.slice A2 n2 c2) (.slice A3 n3 c3))
       have HB := Lib.hid (below_fill3' HW.out Hq.out (.bool (sg z)) (.slice A2 n2 c2) (.slice A3 n3 c3))
       clear hNo
       go_wp2
       refine bodyPost_ret (results_mixed rfl _ _ _ 27 #[.bool (sg z), .slice A2 n2 c2, .slice A3 n3 c3] (0, 0) _ (.int .i64 0) rfl rfl HF.out Tryz.underlying27 rfl rat_size) rfl ?_
       exact ⟨A2, n2, c2, A3, n3, c3, by rw [HSG.out]; rfl, HP.out, HB.out⟩
     · have hcmp : (S.toList == t.toList) = false := text_other (exO_bytes oo) HS.out (fun h => hx (h.trans Hl.out))
       clear hx
       rw [HR.out] at hr
       cases hr
       have e0 := HZ.out.c0
       have e1 := HZ.out.c1
       have e2 := HZ.out.c2
       have f0 := HZ.out.free 0
       have f1 := HZ.out.free 1
       have f2 := HZ.out.free 2
       have HF := Lib.hid (HZ.out.fill (.bool false) (.slice none 0 0) (.slice none 0 0))
       have HB := Lib.hid (below_fill3' HW.out Hq.out (.bool false) (.slice none 0 0) (.slice none 0 0))
       go_wp2
       refine bodyPost_ret (results_mixed rfl _ _ _ 27 #[.bool false, .slice none 0 0, .slice none 0 0] (0, 0) _ (.int .i64 12) rfl rfl HF.out Tryz.underlying27 rfl rat_size) rfl ?_
       exact ⟨none, 0, 0, none, 0, 0, rfl, qt_none _ 0 0, HB.out⟩
end Go.Proofs.YtjikaojffgjndaaGreatDoor

/- All contracts of package decimal. No condition. -/
namespace Go.Proofs.YtjikaojffgjndaaGreatDoor
open Go.RowKit Limb
set_option linter.unusedVariables false
end Go.Proofs.YtjikaojffgjndaaGreatDoor

/- The statements' check that package decimal is there (wakes) answers true, whatever the memory is, where the tables read as they are laid. Condition: the tables (Tab). -/
namespace Go.Proofs.YtjikaojffgjndaaGreatDoor
open Go.RowKit Limb
set_option linter.unusedVariables false
def dwA : Rat := mkRat (-1) 3
def dwH : Rat := mkRat 5 2
theorem dW1 : divR (some ((-1 : Int) : Rat)) (some ((3 : Int) : Rat)) = (some dwA, 0) := by decide +kernel
theorem dW2 : decR Rat.floor (some dwA) 2 = (⟨#[45, 48, 46, 51, 52]⟩, 0) := by decide +kernel
theorem dW3 : decR Rat.ceil (some dwA) 2 = (⟨#[45, 48, 46, 51, 51]⟩, 0) := by decide +kernel
theorem dW4 : decR nearQ (some dwA) 2 = (⟨#[45, 48, 46, 51, 51]⟩, 0) := by decide +kernel
theorem dW5 : divR (some ((5 : Int) : Rat)) (some ((2 : Int) : Rat)) = (some dwH, 0) := by decide +kernel
theorem dW6 : decR nearQ (some dwH) 0 = (⟨#[50]⟩, 0) := by decide +kernel
theorem dW7 : exR (bytesOf ⟨#[45, 49, 47, 51]⟩) = (some dwA, 0) := by decide +kernel
theorem dW8 : exR (bytesOf ⟨#[50, 47, 52]⟩) = (none, 12) := by decide +kernel
theorem dW9 : decF (some dwA) 1 = (-4, 0) := by decide +kernel
theorem dW10 : decR Rat.floor (some dwA) 61 = (⟨#[]⟩, 1) := by decide +kernel
theorem dW11 : strOf (exO (some dwA)) = ⟨#[45, 49, 47, 51]⟩ := by decide +kernel
theorem dW12 : ((7 : Int) : Rat) = 7 := rfl
theorem dW13 : strOf (exO (some 7)) = ⟨#[55]⟩ := by decide +kernel
set_option maxHeartbeats 4000000 in
set_option maxRecDepth 100000 in
theorem wakes_any (w : World) (T : Tab w) : Calls Tryz.prog 10 #[] w fun e w' => e = .returned (.bool true) ∧ Below w.heap.size w w' := by
 have bw := bel_refl w
 have HTab := Lib.hid T
 clear T
 go_enter Tryz.func10, Tryz.ntmps10
 go_wp2_with fail
 refine (by_c (-1) 3 (by decide) (by decide) (by decide) (by decide) _ dW1 _).mono ?_
 rintro e w1 ⟨A_a, n_a, c_a, B_a, m_a, d_a, rfl, h_a, bn⟩
 replace HTab := Lib.hid (HTab.out.below bn)
 replace bw := below_two bw bn
 clear bn
 have h_ra := row3_new w1 27 (.bool (sg (oTop (some dwA)))) (.slice A_a n_a c_a) (.slice B_a m_a d_a)
 have bn := below_new w1 (.cells #[Value.bool (sg (oTop (some dwA))), Value.slice A_a n_a c_a, Value.slice B_a m_a d_a] 27)
 replace h_a := h_a.below bn
 replace HTab := Lib.hid (HTab.out.below bn)
 replace bw := below_two bw bn
 clear bn
 have c_a0 := h_ra.c0
 have c_a1 := h_ra.c1
 have c_a2 := h_ra.c2
 go_wp2_with fail
 clear c_a0 c_a1 c_a2
 generalize w1.alloc (.cells #[Value.bool (sg (oTop (some dwA))), Value.slice A_a n_a c_a, Value.slice B_a m_a d_a] 27) = w2 at *
 obtain ⟨q_a, eg⟩ : ∃ g, g = w1.heap.size := ⟨_, rfl⟩
 rw [← eg] at h_ra ⊢
 clear eg
 refine (dDown_c h_a (by decide) HTab.out 2 (by decide) (by decide) _ _ dW2).mono ?_
 rintro e w3 ⟨rfl, bn⟩
 replace h_a := h_a.below bn
 replace h_ra := h_ra.below bn
 replace HTab := Lib.hid (HTab.out.below bn)
 replace bw := below_two bw bn
 clear bn
 have c_a0 := h_ra.c0
 have c_a1 := h_ra.c1
 have c_a2 := h_ra.c2
 go_wp2_with fail
 clear c_a0 c_a1 c_a2
 refine (dUp_c h_a (by decide) HTab.out 2 (by decide) (by decide) _ _ dW3).mono ?_
 rintro e w4 ⟨rfl, bn⟩
 replace h_a := h_a.below bn
 replace h_ra := h_ra.below bn
 replace HTab := Lib.hid (HTab.out.below bn)
 replace bw := below_two bw bn
 clear bn
 have c_a0 := h_ra.c0
 have c_a1 := h_ra.c1
 have c_a2 := h_ra.c2
 go_wp2_with fail
 clear c_a0 c_a1 c_a2
 refine (dNear_c h_a (by decide) HTab.out 2 (by decide) (by decide) _ _ dW4).mono ?_
 rintro e w5 ⟨rfl, bn⟩
 replace h_a := h_a.below bn
 replace h_ra := h_ra.below bn
 replace HTab := Lib.hid (HTab.out.below bn)
 replace bw := below_two bw bn
 clear bn
 go_wp2_with fail
 refine (by_c 5 2 (by decide) (by decide) (by decide) (by decide) _ dW5 _).mono ?_
 rintro e w6 ⟨A_h, n_h, c_h, B_h, m_h, d_h, rfl, h_h, bn⟩
 replace h_a := h_a.below bn
 replace h_ra := h_ra.below bn
 replace HTab := Lib.hid (HTab.out.below bn)
 replace bw := below_two bw bn
 clear bn
 go_wp2_with fail
 refine (dNear_c h_h (by decide) HTab.out 0 (by decide) (by decide) _ _ dW6).mono ?_
 rintro e w7 ⟨rfl, bn⟩
 replace h_a := h_a.below bn
 replace h_ra := h_ra.below bn
 replace h_h := h_h.below bn
 replace HTab := Lib.hid (HTab.out.below bn)
 replace bw := below_two bw bn
 clear bn
 go_wp2_with fail
 refine (dParse_c ⟨#[45, 49, 47, 51]⟩ (by decide) _ HTab.out _ _ dW7).mono ?_
 rintro e w8 ⟨A_p, n_p, c_p, B_p, m_p, d_p, rfl, h_p, bn⟩
 replace h_a := h_a.below bn
 replace h_ra := h_ra.below bn
 replace h_h := h_h.below bn
 replace HTab := Lib.hid (HTab.out.below bn)
 replace bw := below_two bw bn
 clear bn
 have h_rp := row3_new w8 27 (.bool (sg (oTop (some dwA)))) (.slice A_p n_p c_p) (.slice B_p m_p d_p)
 have bn := below_new w8 (.cells #[Value.bool (sg (oTop (some dwA))), Value.slice A_p n_p c_p, Value.slice B_p m_p d_p] 27)
 replace h_a := h_a.below bn
 replace h_ra := h_ra.below bn
 replace h_h := h_h.below bn
 replace h_p := h_p.below bn
 replace HTab := Lib.hid (HTab.out.below bn)
 replace bw := below_two bw bn
 clear bn
 go_wp2_with fail
 generalize w8.alloc (.cells #[Value.bool (sg (oTop (some dwA))), Value.slice A_p n_p c_p, Value.slice B_p m_p d_p] 27) = w9 at *
 obtain ⟨q_p, eg⟩ : ∃ g, g = w8.heap.size := ⟨_, rfl⟩
 rw [← eg] at h_rp ⊢
 clear eg
 refine (dParse_c ⟨#[50, 47, 52]⟩ (by decide) _ HTab.out _ _ dW8).mono ?_
 rintro e w10 ⟨A_q, n_q, c_q, B_q, m_q, d_q, rfl, h_q, bn⟩
 replace h_a := h_a.below bn
 replace h_ra := h_ra.below bn
 replace h_h := h_h.below bn
 replace h_p := h_p.below bn
 replace h_rp := h_rp.below bn
 replace HTab := Lib.hid (HTab.out.below bn)
 replace bw := below_two bw bn
 clear bn
 have h_rq := row3_new w10 27 (.bool (sg (oTop none))) (.slice A_q n_q c_q) (.slice B_q m_q d_q)
 have bn := below_new w10 (.cells #[Value.bool (sg (oTop none)), Value.slice A_q n_q c_q, Value.slice B_q m_q d_q] 27)
 replace h_a := h_a.below bn
 replace h_ra := h_ra.below bn
 replace h_h := h_h.below bn
 replace h_p := h_p.below bn
 replace h_rp := h_rp.below bn
 replace h_q := h_q.below bn
 replace HTab := Lib.hid (HTab.out.below bn)
 replace bw := below_two bw bn
 clear bn
 have c_a0 := h_ra.c0
 have c_a1 := h_ra.c1
 have c_a2 := h_ra.c2
 go_wp2_with fail
 clear c_a0 c_a1 c_a2
 generalize w10.alloc (.cells #[Value.bool (sg (oTop none)), Value.slice A_q n_q c_q, Value.slice B_q m_q d_q] 27) = w11 at *
 obtain ⟨q_q, eg⟩ : ∃ g, g = w10.heap.size := ⟨_, rfl⟩
 rw [← eg] at h_rq ⊢
 clear eg
 refine (dFloor_c h_a (by decide) HTab.out 1 (by decide) (by decide) _ _ dW9).mono ?_
 rintro e w12 ⟨A_v, n_v, c_v, rfl, h_v, bn⟩
 replace h_a := h_a.below bn
 replace h_ra := h_ra.below bn
 replace h_h := h_h.below bn
 replace h_p := h_p.below bn
 replace h_rp := h_rp.below bn
 replace h_q := h_q.below bn
 replace h_rq := h_rq.below bn
 replace HTab := Lib.hid (HTab.out.below bn)
 replace bw := below_two bw bn
 clear bn
 have h_rv := row2_new w12 25 (.bool (sg (-4))) (.slice A_v n_v c_v)
 have bn := below_new w12 (.cells #[Value.bool (sg (-4)), Value.slice A_v n_v c_v] 25)
 replace h_a := h_a.below bn
 replace h_ra := h_ra.below bn
 replace h_h := h_h.below bn
 replace h_p := h_p.below bn
 replace h_rp := h_rp.below bn
 replace h_q := h_q.below bn
 replace h_rq := h_rq.below bn
 replace h_v := h_v.below bn
 replace HTab := Lib.hid (HTab.out.below bn)
 replace bw := below_two bw bn
 clear bn
 have c_a0 := h_ra.c0
 have c_a1 := h_ra.c1
 have c_a2 := h_ra.c2
 go_wp2_with fail
 clear c_a0 c_a1 c_a2
 generalize w12.alloc (.cells #[Value.bool (sg (-4)), Value.slice A_v n_v c_v] 25) = w13 at *
 obtain ⟨q_v, eg⟩ : ∃ g, g = w12.heap.size := ⟨_, rfl⟩
 rw [← eg] at h_rv ⊢
 clear eg
 refine (dDown_c h_a (by decide) HTab.out 61 (by decide) (by decide) _ _ dW10).mono ?_
 rintro e w14 ⟨rfl, bn⟩
 replace h_a := h_a.below bn
 replace h_ra := h_ra.below bn
 replace h_h := h_h.below bn
 replace h_p := h_p.below bn
 replace h_rp := h_rp.below bn
 replace h_q := h_q.below bn
 replace h_rq := h_rq.below bn
 replace h_v := h_v.below bn
 replace h_rv := h_rv.below bn
 replace HTab := Lib.hid (HTab.out.below bn)
 replace bw := below_two bw bn
 clear bn
 go_wp2
 generalize w14 = wS at *
 refine region_freeg 66 1 [57, 58, 59, 60, 61, 62, 63, 64, 65, 66, 67, 68, 69, 70, 71, 72, 73, 74, 75, 76, 77, 78, 79, 80, 81, 82, 83, 84, 85, 86, 87, 88, 89, 90, 91, 92, 93, 94, 95, 96, 97, 98, 99, 100, 101, 102, 103, 104, 105, 106, 107, 108, 109, 110, 111, 112, 113, 114, 115, 116, 117, 118, 119, 120, 121, 122] ?aF16 (fun wx => Below wS.heap.size wS wx) (fun k vv wx => match k with
  | 0 => vv = .int .i64 0
  | 1 => vv = .bool true
  | 2 => vv = .bool true
  | 3 => vv = .string { data := #[45, 48, 46, 51, 52] }
  | 4 => vv = .bool true
  | 5 => vv = .bool true
  | 6 => vv = .bool true
  | 7 => vv = .int .i64 0
  | 8 => vv = .bool true
  | 9 => vv = .bool true
  | 10 => vv = .bool true
  | 11 => vv = .string { data := #[45, 48, 46, 51, 51] }
  | 12 => vv = .bool true
  | 13 => vv = .bool true
  | 14 => vv = .bool true
  | 15 => vv = .int .i64 0
  | 16 => vv = .bool true
  | 17 => vv = .bool true
  | 18 => vv = .bool true
  | 19 => vv = .string { data := #[45, 48, 46, 51, 51] }
  | 20 => vv = .bool true
  | 21 => vv = .bool true
  | 22 => vv = .bool true
  | 23 => vv = .int .i64 0
  | 24 => vv = .bool true
  | 25 => vv = .bool true
  | 26 => vv = .bool true
  | 27 => vv = .string { data := #[50] }
  | 28 => vv = .bool true
  | 29 => vv = .bool true
  | 30 => vv = .bool true
  | 31 => vv = .int .i64 0
  | 32 => vv = .bool true
  | 33 => vv = .bool true
  | 34 => vv = .bool true
  | 35 => vv = .agg #[.bool (sg (oTop (some dwA))), .slice A_p n_p c_p, .slice B_p m_p d_p]
  | 36 => vv = .agg #[.bool (sg (oTop (some dwA))), .slice A_a n_a c_a, .slice B_a m_a d_a]
  | 37 => vv = .bool true
  | 38 => vv = .bool true
  | 39 => vv = .bool true
  | 40 => vv = .int .i64 12
  | 41 => vv = .bool true
  | 42 => vv = .bool true
  | 43 => vv = .bool true
  | 44 => vv = .int .i64 0
  | 45 => vv = .bool true
  | 46 => vv = .bool true
  | 47 => vv = .bool true
  | 48 => vv = .agg #[.bool (sg (-4)), .slice A_v n_v c_v]
  | 49 => ∃ (e0 : Option Addr) (e1 : Nat) (e2 : Nat), vv = .agg #[.bool (sg (-4)), .slice e0 e1 e2] ∧ ZZ wx (sg (-4)) e0 e1 e2 (limbs (-4 : Int).natAbs) (-4) 2
  | 50 => vv = .bool true
  | 51 => vv = .bool true
  | 52 => vv = .bool true
  | 53 => vv = .int .i64 1
  | 54 => vv = .bool true
  | 55 => vv = .bool true
  | 56 => vv = .bool true
  | 57 => vv = .agg #[.bool (sg (oTop (some dwA))), .slice A_a n_a c_a, .slice B_a m_a d_a]
  | 58 => vv = .string { data := #[45, 49, 47, 51] }
  | 59 => vv = .bool true
  | 60 => vv = .bool true
  | 61 => vv = .bool true
  | 62 => ∃ (e0 : Option Addr) (e1 : Nat) (e2 : Nat) (e3 : Option Addr) (e4 : Nat) (e5 : Nat), vv = .agg #[.bool (sg (oTop (some 7))), .slice e0 e1 e2, .slice e3 e4 e5] ∧ QT wx e0 e1 e2 e3 e4 e5 (some 7)
  | 63 => vv = .string { data := #[55] }
  | 64 => vv = .bool true
  | _ => vv = .bool true)
  (fun k => false) (by kernel_rfl) ?haF16 rfl (by kernel_rfl) (by kernel_rfl) (fun _ _ _ _ _ h => h) ?hSb16 ?hPb16 ?hS16 ?hop16 ?hfin16
 case haF16 =>
  intro vals
  simp only [fillAll, List.getElem?_cons_zero, List.getElem?_cons_succ, Act.put, List.setIfInBounds_toArray, List.set_cons_zero, List.set_cons_succ]
  exact rfl
 case hSb16 => exact fun wx w2 hb hS => below_two hS hb
 case hPb16 =>
  intro k v wa wb hb h
  match k, h with
  | 0, h => exact h
  | 1, h => exact h
  | 2, h => exact h
  | 3, h => exact h
  | 4, h => exact h
  | 5, h => exact h
  | 6, h => exact h
  | 7, h => exact h
  | 8, h => exact h
  | 9, h => exact h
  | 10, h => exact h
  | 11, h => exact h
  | 12, h => exact h
  | 13, h => exact h
  | 14, h => exact h
  | 15, h => exact h
  | 16, h => exact h
  | 17, h => exact h
  | 18, h => exact h
  | 19, h => exact h
  | 20, h => exact h
  | 21, h => exact h
  | 22, h => exact h
  | 23, h => exact h
  | 24, h => exact h
  | 25, h => exact h
  | 26, h => exact h
  | 27, h => exact h
  | 28, h => exact h
  | 29, h => exact h
  | 30, h => exact h
  | 31, h => exact h
  | 32, h => exact h
  | 33, h => exact h
  | 34, h => exact h
  | 35, h => exact h
  | 36, h => exact h
  | 37, h => exact h
  | 38, h => exact h
  | 39, h => exact h
  | 40, h => exact h
  | 41, h => exact h
  | 42, h => exact h
  | 43, h => exact h
  | 44, h => exact h
  | 45, h => exact h
  | 46, h => exact h
  | 47, h => exact h
  | 48, h => exact h
  | 49, ⟨e0, e1, e2, h1, g0⟩ => exact ⟨e0, e1, e2, h1, g0.below hb⟩
  | 50, h => exact h
  | 51, h => exact h
  | 52, h => exact h
  | 53, h => exact h
  | 54, h => exact h
  | 55, h => exact h
  | 56, h => exact h
  | 57, h => exact h
  | 58, h => exact h
  | 59, h => exact h
  | 60, h => exact h
  | 61, h => exact h
  | 62, ⟨e0, e1, e2, e3, e4, e5, h1, g0⟩ => exact ⟨e0, e1, e2, e3, e4, e5, h1, g0.below hb⟩
  | 63, h => exact h
  | 64, h => exact h
  | _ + 65, h => exact h
 case hS16 => exact (Below.refl _ _).drew
 case hop16 =>
  refine .cons (k := 0) (.plain rfl ?_) (.cons (k := 1) (.plain rfl ?_) (.cons (k := 2) (.plain rfl ?_) (.cons (k := 3) (.yes (fun vals wr hS hd g b e => by cases e; exact hd 2 (by decide +kernel)) ?_) (.cons (k := 4) (.yes (fun vals wr hS hd g b e => by cases e; exact hd 2 (by decide +kernel)) ?_) (.cons (k := 5) (.plain rfl ?_) (.cons (k := 6) (.plain rfl ?_) (.cons (k := 7) (.yes (fun vals wr hS hd g b e => by cases e; exact hd 6 (by decide +kernel)) ?_) (.cons (k := 8) (.yes (fun vals wr hS hd g b e => by cases e; exact hd 6 (by decide +kernel)) ?_) (.cons (k := 9) (.plain rfl ?_) (.cons (k := 10) (.plain rfl ?_) (.cons (k := 11) (.yes (fun vals wr hS hd g b e => by cases e; exact hd 10 (by decide +kernel)) ?_) (.cons (k := 12) (.yes (fun vals wr hS hd g b e => by cases e; exact hd 10 (by decide +kernel)) ?_) (.cons (k := 13) (.plain rfl ?_) (.cons (k := 14) (.plain rfl ?_) (.cons (k := 15) (.yes (fun vals wr hS hd g b e => by cases e; exact hd 14 (by decide +kernel)) ?_) (.cons (k := 16) (.yes (fun vals wr hS hd g b e => by cases e; exact hd 14 (by decide +kernel)) ?_) (.cons (k := 17) (.plain rfl ?_) (.cons (k := 18) (.plain rfl ?_) (.cons (k := 19) (.yes (fun vals wr hS hd g b e => by cases e; exact hd 18 (by decide +kernel)) ?_) (.cons (k := 20) (.yes (fun vals wr hS hd g b e => by cases e; exact hd 18 (by decide +kernel)) ?_) (.cons (k := 21) (.plain rfl ?_) (.cons (k := 22) (.plain rfl ?_) (.cons (k := 23) (.yes (fun vals wr hS hd g b e => by cases e; exact hd 22 (by decide +kernel)) ?_) (.cons (k := 24) (.yes (fun vals wr hS hd g b e => by cases e; exact hd 22 (by decide +kernel)) ?_) (.cons (k := 25) (.plain rfl ?_) (.cons (k := 26) (.plain rfl ?_) (.cons (k := 27) (.yes (fun vals wr hS hd g b e => by cases e; exact hd 26 (by decide +kernel)) ?_) (.cons (k := 28) (.yes (fun vals wr hS hd g b e => by cases e; exact hd 26 (by decide +kernel)) ?_) (.cons (k := 29) (.plain rfl ?_) (.cons (k := 30) (.plain rfl ?_) (.cons (k := 31) (.yes (fun vals wr hS hd g b e => by cases e; exact hd 30 (by decide +kernel)) ?_) (.cons (k := 32) (.yes (fun vals wr hS hd g b e => by cases e; exact hd 30 (by decide +kernel)) ?_) (.cons (k := 33) (.plain rfl ?_) (.cons (k := 34) (.plain rfl ?_) (.cons (k := 35) (.yes (fun vals wr hS hd g b e => by cases e; exact hd 34 (by decide +kernel)) ?_) (.cons (k := 36) (.yes (fun vals wr hS hd g b e => by cases e; exact hd 34 (by decide +kernel)) ?_) (.cons (k := 37) (.yes (fun vals wr hS hd g b e => by cases e; exact hd 34 (by decide +kernel)) ?_) (.cons (k := 38) (.plain rfl ?_) (.cons (k := 39) (.plain rfl ?_) (.cons (k := 40) (.yes (fun vals wr hS hd g b e => by cases e; exact hd 39 (by decide +kernel)) ?_) (.cons (k := 41) (.yes (fun vals wr hS hd g b e => by cases e; exact hd 39 (by decide +kernel)) ?_) (.cons (k := 42) (.plain rfl ?_) (.cons (k := 43) (.plain rfl ?_) (.cons (k := 44) (.yes (fun vals wr hS hd g b e => by cases e; exact hd 43 (by decide +kernel)) ?_) (.cons (k := 45) (.yes (fun vals wr hS hd g b e => by cases e; exact hd 43 (by decide +kernel)) ?_) (.cons (k := 46) (.plain rfl ?_) (.cons (k := 47) (.plain rfl ?_) (.cons (k := 48) (.yes (fun vals wr hS hd g b e => by cases e; exact hd 47 (by decide +kernel)) ?_) (.cons (k := 49) (.yes (fun vals wr hS hd g b e => by cases e; exact hd 47 (by decide +kernel)) ?_) (.cons (k := 50) (.yes (fun vals wr hS hd g b e => by cases e; exact hd 47 (by decide +kernel)) ?_) (.cons (k := 51) (.plain rfl ?_) (.cons (k := 52) (.plain rfl ?_) (.cons (k := 53) (.yes (fun vals wr hS hd g b e => by cases e; exact hd 52 (by decide +kernel)) ?_) (.cons (k := 54) (.yes (fun vals wr hS hd g b e => by cases e; exact hd 52 (by decide +kernel)) ?_) (.cons (k := 55) (.plain rfl ?_) (.cons (k := 56) (.plain rfl ?_) (.cons (k := 57) (.yes (fun vals wr hS hd g b e => by cases e; exact hd 56 (by decide +kernel)) ?_) (.cons (k := 58) (.yes (fun vals wr hS hd g b e => by cases e; exact hd 56 (by decide +kernel)) ?_) (.cons (k := 59) (.yes (fun vals wr hS hd g b e => by cases e; exact hd 56 (by decide +kernel)) ?_) (.cons (k := 60) (.plain rfl ?_) (.cons (k := 61) (.plain rfl ?_) (.cons (k := 62) (.yes (fun vals wr hS hd g b e => by cases e; exact hd 61 (by decide +kernel)) ?_) (.cons (k := 63) (.yes (fun vals wr hS hd g b e => by cases e; exact hd 61 (by decide +kernel)) ?_) (.cons (k := 64) (.yes (fun vals wr hS hd g b e => by cases e; exact hd 61 (by decide +kernel)) ?_) (.cons (k := 65) (.plain rfl ?_) (.nil))))))))))))))))))))))))))))))))))))))))))))))))))))))))))))))))))
  all_goals intro vals wr hS hd KC hK
  all_goals (show Oper.wp _ _ _ _ _ _; dsimp only)
  · go_simp
    refine hK _ _ rfl (Below.refl _ _) (by first | rfl | simp) (fun h => by cases h)
  · have d0 : vals 0 = _ := hd 0 (by decide +kernel)
    rw [d0]
    go_simp
    refine hK _ _ rfl (Below.refl _ _) (by first | rfl | simp) (fun h => by cases h)
  · have d1 : vals 1 = _ := hd 1 (by decide +kernel)
    rw [d1]
    go_simp
    refine hK _ _ rfl (Below.refl _ _) (by first | rfl | simp) (fun h => by cases h)
  · go_simp
    refine hK _ _ rfl (Below.refl _ _) (by first | rfl | simp) (fun h => by cases h)
  · have d3 : vals 3 = _ := hd 3 (by decide +kernel)
    rw [d3]
    go_simp
    refine hK _ _ rfl (Below.refl _ _) (by first | rfl | simp) (fun h => by cases h)
  · have d2 : vals 2 = _ := hd 2 (by decide +kernel)
    have d4 : vals 4 = _ := hd 4 (by decide +kernel)
    rw [d2, d4]
    go_simp
    refine hK _ _ rfl (Below.refl _ _) (by first | rfl | simp) (fun h => by cases h)
  · have d5 : vals 5 = _ := hd 5 (by decide +kernel)
    rw [d5]
    go_simp
    refine hK _ _ rfl (Below.refl _ _) (by first | rfl | simp) (fun h => by cases h)
  · go_simp
    refine hK _ _ rfl (Below.refl _ _) (by first | rfl | simp) (fun h => by cases h)
  · have d7 : vals 7 = _ := hd 7 (by decide +kernel)
    rw [d7]
    go_simp
    refine hK _ _ rfl (Below.refl _ _) (by first | rfl | simp) (fun h => by cases h)
  · have d6 : vals 6 = _ := hd 6 (by decide +kernel)
    have d8 : vals 8 = _ := hd 8 (by decide +kernel)
    rw [d6, d8]
    go_simp
    refine hK _ _ rfl (Below.refl _ _) (by first | rfl | simp) (fun h => by cases h)
  · have d9 : vals 9 = _ := hd 9 (by decide +kernel)
    rw [d9]
    go_simp
    refine hK _ _ rfl (Below.refl _ _) (by first | rfl | simp) (fun h => by cases h)
  · go_simp
    refine hK _ _ rfl (Below.refl _ _) (by first | rfl | simp) (fun h => by cases h)
  · have d11 : vals 11 = _ := hd 11 (by decide +kernel)
    rw [d11]
    go_simp
    refine hK _ _ rfl (Below.refl _ _) (by first | rfl | simp) (fun h => by cases h)
  · have d10 : vals 10 = _ := hd 10 (by decide +kernel)
    have d12 : vals 12 = _ := hd 12 (by decide +kernel)
    rw [d10, d12]
    go_simp
    refine hK _ _ rfl (Below.refl _ _) (by first | rfl | simp) (fun h => by cases h)
  · have d13 : vals 13 = _ := hd 13 (by decide +kernel)
    rw [d13]
    go_simp
    refine hK _ _ rfl (Below.refl _ _) (by first | rfl | simp) (fun h => by cases h)
  · go_simp
    refine hK _ _ rfl (Below.refl _ _) (by first | rfl | simp) (fun h => by cases h)
  · have d15 : vals 15 = _ := hd 15 (by decide +kernel)
    rw [d15]
    go_simp
    refine hK _ _ rfl (Below.refl _ _) (by first | rfl | simp) (fun h => by cases h)
  · have d14 : vals 14 = _ := hd 14 (by decide +kernel)
    have d16 : vals 16 = _ := hd 16 (by decide +kernel)
    rw [d14, d16]
    go_simp
    refine hK _ _ rfl (Below.refl _ _) (by first | rfl | simp) (fun h => by cases h)
  · have d17 : vals 17 = _ := hd 17 (by decide +kernel)
    rw [d17]
    go_simp
    refine hK _ _ rfl (Below.refl _ _) (by first | rfl | simp) (fun h => by cases h)
  · go_simp
    refine hK _ _ rfl (Below.refl _ _) (by first | rfl | simp) (fun h => by cases h)
  · have d19 : vals 19 = _ := hd 19 (by decide +kernel)
    rw [d19]
    go_simp
    refine hK _ _ rfl (Below.refl _ _) (by first | rfl | simp) (fun h => by cases h)
  · have d18 : vals 18 = _ := hd 18 (by decide +kernel)
    have d20 : vals 20 = _ := hd 20 (by decide +kernel)
    rw [d18, d20]
    go_simp
    refine hK _ _ rfl (Below.refl _ _) (by first | rfl | simp) (fun h => by cases h)
  · have d21 : vals 21 = _ := hd 21 (by decide +kernel)
    rw [d21]
    go_simp
    refine hK _ _ rfl (Below.refl _ _) (by first | rfl | simp) (fun h => by cases h)
  · go_simp
    refine hK _ _ rfl (Below.refl _ _) (by first | rfl | simp) (fun h => by cases h)
  · have d23 : vals 23 = _ := hd 23 (by decide +kernel)
    rw [d23]
    go_simp
    refine hK _ _ rfl (Below.refl _ _) (by first | rfl | simp) (fun h => by cases h)
  · have d22 : vals 22 = _ := hd 22 (by decide +kernel)
    have d24 : vals 24 = _ := hd 24 (by decide +kernel)
    rw [d22, d24]
    go_simp
    refine hK _ _ rfl (Below.refl _ _) (by first | rfl | simp) (fun h => by cases h)
  · have d25 : vals 25 = _ := hd 25 (by decide +kernel)
    rw [d25]
    go_simp
    refine hK _ _ rfl (Below.refl _ _) (by first | rfl | simp) (fun h => by cases h)
  · go_simp
    refine hK _ _ rfl (Below.refl _ _) (by first | rfl | simp) (fun h => by cases h)
  · have d27 : vals 27 = _ := hd 27 (by decide +kernel)
    rw [d27]
    go_simp
    refine hK _ _ rfl (Below.refl _ _) (by first | rfl | simp) (fun h => by cases h)
  · have d26 : vals 26 = _ := hd 26 (by decide +kernel)
    have d28 : vals 28 = _ := hd 28 (by decide +kernel)
    rw [d26, d28]
    go_simp
    refine hK _ _ rfl (Below.refl _ _) (by first | rfl | simp) (fun h => by cases h)
  · have d29 : vals 29 = _ := hd 29 (by decide +kernel)
    rw [d29]
    go_simp
    refine hK _ _ rfl (Below.refl _ _) (by first | rfl | simp) (fun h => by cases h)
  · go_simp
    refine hK _ _ rfl (Below.refl _ _) (by first | rfl | simp) (fun h => by cases h)
  · have d31 : vals 31 = _ := hd 31 (by decide +kernel)
    rw [d31]
    go_simp
    refine hK _ _ rfl (Below.refl _ _) (by first | rfl | simp) (fun h => by cases h)
  · have d30 : vals 30 = _ := hd 30 (by decide +kernel)
    have d32 : vals 32 = _ := hd 32 (by decide +kernel)
    rw [d30, d32]
    go_simp
    refine hK _ _ rfl (Below.refl _ _) (by first | rfl | simp) (fun h => by cases h)
  · have d33 : vals 33 = _ := hd 33 (by decide +kernel)
    rw [d33]
    go_simp
    refine hK _ _ rfl (Below.refl _ _) (by first | rfl | simp) (fun h => by cases h)
  · have z0 := (h_rp.below hS).c0
    have z1 := (h_rp.below hS).c1
    have z2 := (h_rp.below hS).c2
    go_simp
    refine hK _ _ rfl (Below.refl _ _) (by first | rfl | simp) (fun h => by cases h)
  · have z0 := (h_ra.below hS).c0
    have z1 := (h_ra.below hS).c1
    have z2 := (h_ra.below hS).c2
    go_simp
    refine hK _ _ rfl (Below.refl _ _) (by first | rfl | simp) (fun h => by cases h)
  · have d35 : vals 35 = _ := hd 35 (by decide +kernel)
    have d36 : vals 36 = _ := hd 36 (by decide +kernel)
    rw [d35, d36]
    go_simp
    go_at_call 20
    with_reducible refine (keepRat_c (h_p.below hS) (h_a.below hS) (by decide) (by decide) true (keepQ rfl)).mono ?_
    rintro e w2 ⟨rfl, bn_r⟩
    refine hK _ _ rfl bn_r rfl (fun h => by cases h)
  · have d34 : vals 34 = _ := hd 34 (by decide +kernel)
    have d37 : vals 37 = _ := hd 37 (by decide +kernel)
    rw [d34, d37]
    go_simp
    refine hK _ _ rfl (Below.refl _ _) (by first | rfl | simp) (fun h => by cases h)
  · have d38 : vals 38 = _ := hd 38 (by decide +kernel)
    rw [d38]
    go_simp
    refine hK _ _ rfl (Below.refl _ _) (by first | rfl | simp) (fun h => by cases h)
  · go_simp
    refine hK _ _ rfl (Below.refl _ _) (by first | rfl | simp) (fun h => by cases h)
  · have d40 : vals 40 = _ := hd 40 (by decide +kernel)
    rw [d40]
    go_simp
    refine hK _ _ rfl (Below.refl _ _) (by first | rfl | simp) (fun h => by cases h)
  · have d39 : vals 39 = _ := hd 39 (by decide +kernel)
    have d41 : vals 41 = _ := hd 41 (by decide +kernel)
    rw [d39, d41]
    go_simp
    refine hK _ _ rfl (Below.refl _ _) (by first | rfl | simp) (fun h => by cases h)
  · have d42 : vals 42 = _ := hd 42 (by decide +kernel)
    rw [d42]
    go_simp
    refine hK _ _ rfl (Below.refl _ _) (by first | rfl | simp) (fun h => by cases h)
  · go_simp
    refine hK _ _ rfl (Below.refl _ _) (by first | rfl | simp) (fun h => by cases h)
  · have d44 : vals 44 = _ := hd 44 (by decide +kernel)
    rw [d44]
    go_simp
    refine hK _ _ rfl (Below.refl _ _) (by first | rfl | simp) (fun h => by cases h)
  · have d43 : vals 43 = _ := hd 43 (by decide +kernel)
    have d45 : vals 45 = _ := hd 45 (by decide +kernel)
    rw [d43, d45]
    go_simp
    refine hK _ _ rfl (Below.refl _ _) (by first | rfl | simp) (fun h => by cases h)
  · have d46 : vals 46 = _ := hd 46 (by decide +kernel)
    rw [d46]
    go_simp
    refine hK _ _ rfl (Below.refl _ _) (by first | rfl | simp) (fun h => by cases h)
  · have z0 := (h_rv.below hS).c0
    have z1 := (h_rv.below hS).c1
    go_simp
    refine hK _ _ rfl (Below.refl _ _) (by first | rfl | simp) (fun h => by cases h)
  · go_simp
    go_at_call 32
    with_reducible refine (wOf_c (-4) (by decide) (by decide) _).mono ?_
    rintro e w2 ⟨r0, r1, r2, rfl, f0, bn_r⟩
    refine hK _ _ rfl bn_r ⟨_, _, _, rfl, f0⟩ (fun h => by cases h)
  · have d48 : vals 48 = _ := hd 48 (by decide +kernel)
    obtain ⟨A_49_0, n_49_1, n_49_2, d49, h_49_0⟩ := hd 49 (by decide +kernel)
    rw [d48, d49]
    go_simp
    go_at_call 25
    with_reducible refine (keepInt_c (h_v.below hS) h_49_0 (by decide) (by decide) true (zsame rfl)).mono ?_
    rintro e w2 ⟨rfl, bn_r⟩
    refine hK _ _ rfl bn_r rfl (fun h => by cases h)
  · have d47 : vals 47 = _ := hd 47 (by decide +kernel)
    have d50 : vals 50 = _ := hd 50 (by decide +kernel)
    rw [d47, d50]
    go_simp
    refine hK _ _ rfl (Below.refl _ _) (by first | rfl | simp) (fun h => by cases h)
  · have d51 : vals 51 = _ := hd 51 (by decide +kernel)
    rw [d51]
    go_simp
    refine hK _ _ rfl (Below.refl _ _) (by first | rfl | simp) (fun h => by cases h)
  · go_simp
    refine hK _ _ rfl (Below.refl _ _) (by first | rfl | simp) (fun h => by cases h)
  · have d53 : vals 53 = _ := hd 53 (by decide +kernel)
    rw [d53]
    go_simp
    refine hK _ _ rfl (Below.refl _ _) (by first | rfl | simp) (fun h => by cases h)
  · have d52 : vals 52 = _ := hd 52 (by decide +kernel)
    have d54 : vals 54 = _ := hd 54 (by decide +kernel)
    rw [d52, d54]
    go_simp
    refine hK _ _ rfl (Below.refl _ _) (by first | rfl | simp) (fun h => by cases h)
  · have d55 : vals 55 = _ := hd 55 (by decide +kernel)
    rw [d55]
    go_simp
    refine hK _ _ rfl (Below.refl _ _) (by first | rfl | simp) (fun h => by cases h)
  · have z0 := (h_ra.below hS).c0
    have z1 := (h_ra.below hS).c1
    have z2 := (h_ra.below hS).c2
    go_simp
    refine hK _ _ rfl (Below.refl _ _) (by first | rfl | simp) (fun h => by cases h)
  · have d57 : vals 57 = _ := hd 57 (by decide +kernel)
    rw [d57]
    go_simp
    go_at_call 18
    with_reducible refine (dExact_c (h_a.below hS) (by decide) (HTab.out.below hS) _ dW11).mono ?_
    rintro e w2 ⟨rfl, bn_r⟩
    refine hK _ _ rfl bn_r rfl (fun h => by cases h)
  · have d58 : vals 58 = _ := hd 58 (by decide +kernel)
    rw [d58]
    go_simp
    refine hK _ _ rfl (Below.refl _ _) (by first | rfl | simp) (fun h => by cases h)
  · have d56 : vals 56 = _ := hd 56 (by decide +kernel)
    have d59 : vals 59 = _ := hd 59 (by decide +kernel)
    rw [d56, d59]
    go_simp
    refine hK _ _ rfl (Below.refl _ _) (by first | rfl | simp) (fun h => by cases h)
  · have d60 : vals 60 = _ := hd 60 (by decide +kernel)
    rw [d60]
    go_simp
    refine hK _ _ rfl (Below.refl _ _) (by first | rfl | simp) (fun h => by cases h)
  · go_simp
    go_at_call 38
    with_reducible refine (rWhole_is 7 (by decide) (by decide) _ dW12 _).mono ?_
    rintro e w2 ⟨r0, r1, r2, r3, r4, r5, rfl, f0, bn_r⟩
    refine hK _ _ rfl bn_r ⟨_, _, _, _, _, _, rfl, f0⟩ (fun h => by cases h)
  · obtain ⟨A_62_0, n_62_1, n_62_2, A_62_3, n_62_4, n_62_5, d62, h_62_0⟩ := hd 62 (by decide +kernel)
    rw [d62]
    go_simp
    go_at_call 18
    with_reducible refine (dExact_c h_62_0 (by decide) (HTab.out.below hS) _ dW13).mono ?_
    rintro e w2 ⟨rfl, bn_r⟩
    refine hK _ _ rfl bn_r rfl (fun h => by cases h)
  · have d63 : vals 63 = _ := hd 63 (by decide +kernel)
    rw [d63]
    go_simp
    refine hK _ _ rfl (Below.refl _ _) (by first | rfl | simp) (fun h => by cases h)
  · have d61 : vals 61 = _ := hd 61 (by decide +kernel)
    have d64 : vals 64 = _ := hd 64 (by decide +kernel)
    rw [d61, d64]
    go_simp
    refine hK _ _ rfl (Below.refl _ _) (by first | rfl | simp) (fun h => by cases h)
 case hfin16 =>
  intro vals wr hS hP hne
  have ez_65 : vals 65 = _ := hP 65 (by decide)
  have HB := Lib.hid (below_two bw hS)
  try dsimp only
  rw [ez_65]
  refine wpAny_ready (rs := [66]) (by kernel_rfl) (by simp) (AllReady.cons rfl (fun KC hK => ?_) AllReady.nil)
  go_simp
  refine hK _ _ ?_
  clear hK KC
  refine wpAny_done (by kernel_rfl) ?_ _
  go_wp2
  go_ret
  exact ⟨rfl, HB.out⟩
end Go.Proofs.YtjikaojffgjndaaGreatDoor
