/- For every two numbers and every text ParseNums answers true and leaves its arguments as they were. Conditions: the row's own (the tables of kinds read as the program lays them). -/
import Derived.Test.YtheaepceghnkpabDoorM8
import Derived.Test.YtheaepceghnkpabDoorCards
import Derived.Test.YtheaepceghnkpabDoorTie
import Derived.ChangeMaps5
import Derived.Lay
import Derived.SevenTiedAt
/- For every two numbers and every text ParseNums answers true and leaves its arguments as they were. Conditions: the row's own (the tables of kinds read as the program lays them). -/
namespace Go.Proofs.YtheaepceghnkpabDoor.lawParseNums
open Go.ChangeShapes Go.WideShapes Go.ChangeAt Go.RowKit Limb
set_option linter.unusedVariables false
theorem u32_nat {v : Int} (h : (Lit.int .u32 v).wf = true) : ∃ n : Nat, v = (n : Int) ∧ n < 4294967296 := by
 have h1 : 0 ≤ v ∧ v < 4294967296 := by
  have h2 : IntKind.u32.min = 0 := rfl
  have h3 : IntKind.u32.max = 4294967295 := rfl
  simp only [Lit.wf, Bool.and_eq_true, decide_eq_true_eq] at h
  omega
 exact ⟨v.toNat, by omega, by omega⟩
theorem nums_len {s t u : List Nat} (h1 : s.length ≤ 11) (h2 : t.length ≤ 11) (h3 : u.length ≤ 200) : (numsX s t u).length ≤ 4000 := by
 unfold numsX numsM numsE
 simp
 omega
theorem dec_short {n : Nat} (h : n < 4294967296) : (decT n).length ≤ 11 := by
 by_cases h0 : n = 0
 · subst h0; decide
 · have h2 := decT_len_pow h0
   rcases Nat.lt_or_ge (decT n).length 12 with h3 | h3
   · omega
   · have := Nat.pow_le_pow_right (n := 10) (by decide) (show 11 ≤ (decT n).length - 1 by omega)
     omega
theorem nums_text {s t : List Nat} {U : ByteArray} (hs : Bytes s) (ht : Bytes t) : bytesOf (⟨#[115, 111, 117, 114, 99, 101, 32, 120, 32, 61, 32, 45, 32]⟩ ++ strOf s ++ ⟨#[32, 47, 32]⟩ ++ strOf t ++ ⟨#[32, 91]⟩ ++ U ++ ⟨#[93, 32, 58, 32]⟩ ++ strOf t ++ ⟨#[32, 59, 32, 99, 111, 118, 32, 120, 32, 120, 32, 61, 32]⟩ ++ strOf s ++ ⟨#[59]⟩) = numsX s t (bytesOf U) := by
 simp only [bytesOf_append, bytesOf_strOf hs, bytesOf_strOf ht]
 unfold numsX numsM numsE
 have e : ∀ (l : List UInt8), bytesOf ⟨l.toArray⟩ = l.map UInt8.toNat := fun l => by unfold bytesOf; simp
 simp [bytesOf]
set_option maxHeartbeats 8000000 in
set_option maxRecDepth 100000 in
theorem walk (v_a : Int) (v_b : Int) (s_unit : ByteArray) (w : World) (f_a : (Lit.int .u32 v_a).wf = true) (f_b : (Lit.int .u32 v_b).wf = true) (z_unit : s_unit.size ≤ maxLen) (HT : PTab w) :
 Calls Tryd.prog 3 #[.int .u32 v_a, .int .u32 v_b, .string s_unit] w fun e w' => e = .returned (.bool true) ∧ Below w.heap.size w w' := by
 have HT0 := Lib.hid HT
 clear HT
 obtain ⟨na, hna⟩ : ∃ n : Nat, v_a = (n : Int) ∧ n < 4294967296 := u32_nat f_a
 obtain ⟨nb, hnb⟩ : ∃ n : Nat, v_b = (n : Int) ∧ n < 4294967296 := u32_nat f_b
 obtain ⟨rfl, hna⟩ := hna
 obtain ⟨rfl, hnb⟩ := hnb
 clear f_a f_b
 have hz : s_unit.size ≤ 9223372036854775807 := z_unit
 have HL := Lib.hid (length_bytesOf s_unit)
 have HB0 : Hid (Below w.heap.size w w) := Below.refl _ _
 go_enter Tryd.func3, Tryd.ntmps3
 go_wp2
 go_loopw [7] (fun i wr => ∃ k : Nat, i = .int .i64 (k : Int) ∧ k ≤ s_unit.size ∧ Hid (((bytesOf s_unit).take k).all inUn = true) ∧ w = wr) (fun i _ => s_unit.size - (intOf i).toNat)
 case atStart => exact ⟨0, rfl, Nat.zero_le _, rfl, rfl⟩
 case round =>
  obtain ⟨k, rfl, hk, HA, rfl⟩ := hrel
  by_cases hlt : k < s_unit.size
  · skip
    obtain ⟨d, hd⟩ : ∃ d, (s_unit[k]'hlt).toNat = d := ⟨_, rfl⟩
    have hdl : lim (bytesOf s_unit) k = d := by rw [← Limb.byte_at s_unit k hlt, hd]
    by_cases h93 : d = 93
    · subst h93
      clear hdl
      go_wp2_with fail
      refine (wakes_any w (Lib.hid (HT0.out.below HB0.out))).mono ?_
      rintro e w9 ⟨rfl, bn⟩
      have HB9 := Lib.hid (below_two HB0.out bn)
      clear bn
      go_wp2
      go_ret
      exact ⟨rfl, HB9.out⟩
    · have e1 : ((d : Int) == 93) = false := by rw [beq_eq_false_iff_ne]; omega
      by_cases h10 : d = 10
      · subst h10
        clear hdl
        go_wp2_with fail
        refine (wakes_any w (Lib.hid (HT0.out.below HB0.out))).mono ?_
        rintro e w9 ⟨rfl, bn⟩
        have HB9 := Lib.hid (below_two HB0.out bn)
        clear bn
        go_wp2
        go_ret
        exact ⟨rfl, HB9.out⟩
      · have e2 : ((d : Int) == 10) = false := by rw [beq_eq_false_iff_ne]; omega
        have HA2 : Hid (((bytesOf s_unit).take (k + 1)).all inUn = true) := by
         show _ = _
         have hx : (bytesOf s_unit)[k]? = some d := by rw [← hdl, List.getElem?_eq_getElem (by rw [HL.out]; exact hlt)]; unfold lim; rw [List.getD_eq_getElem?_getD, List.getElem?_eq_getElem (by rw [HL.out]; exact hlt)]; rfl
         rw [List.take_add_one, hx, List.all_append, HA.out]
         simp [inUn, h93, h10]
        clear hdl h93 h10
        go_wp2
        go_roundw
        case rel => exact ⟨k + 1, by go_num, hlt, HA2, by first | rfl | trivial⟩
        case measure => simp [intOf]; omega
  · skip
    obtain rfl : s_unit.size = k := by omega
    have HA2 : Hid ((bytesOf s_unit).all inUn = true) := by show _ = _; have h := HA.out; rwa [List.take_of_length_le (by rw [HL.out]; exact Nat.le_refl _)] at h
    clear HA
    by_cases hu1 : s_unit.size < 1
    · go_wp2_with fail
      refine (wakes_any w (Lib.hid (HT0.out.below HB0.out))).mono ?_
      rintro e w9 ⟨rfl, bn⟩
      have HB9 := Lib.hid (below_two HB0.out bn)
      clear bn
      go_wp2
      go_ret
      exact ⟨rfl, HB9.out⟩
    · by_cases hu2 : 200 < s_unit.size
      · go_wp2_with fail
        refine (wakes_any w (Lib.hid (HT0.out.below HB0.out))).mono ?_
        rintro e w9 ⟨rfl, bn⟩
        have HB9 := Lib.hid (below_two HB0.out bn)
        clear bn
        go_wp2
        go_ret
        exact ⟨rfl, HB9.out⟩
      · skip
        have bw := bel_refl w
        go_wp2_with fail
        refine (dec_n na (by omega) w).mono ?_
        rintro e w1 ⟨rfl, bn⟩
        replace bw := below_two bw bn
        clear bn
        go_wp2_with fail
        refine (dec_n nb (by omega) w1).mono ?_
        rintro e w2 ⟨rfl, bn⟩
        replace bw := below_two bw bn
        clear bn
        have ga := litGood_dec hna
        have gb := litGood_dec hnb
        have hsa : (strOf (decT na)).size ≤ 11 := by rw [size_strOf]; exact dec_short hna
        have hsb : (strOf (decT nb)).size ≤ 11 := by rw [size_strOf]; exact dec_short hnb
        have htx := nums_text (U := s_unit) (decT_bytes na) (decT_bytes nb)
        have hnu : strOf (45 :: (decT na ++ 47 :: decT nb)) = ⟨#[45]⟩ ++ strOf (decT na) ++ ⟨#[47]⟩ ++ strOf (decT nb) := by
         have e1 : ⟨#[45]⟩ = strOf [45] := rfl
         have e2 : ⟨#[47]⟩ = strOf [47] := rfl
         rw [e1, e2, strOf_append, strOf_append, strOf_append]; simp
        obtain ⟨S, hS⟩ : ∃ S, strOf (decT na) = S := ⟨_, rfl⟩
        obtain ⟨T, hT⟩ : ∃ T, strOf (decT nb) = T := ⟨_, rfl⟩
        rw [hS, hT] at htx hnu
        rw [hS] at hsa ⊢
        rw [hT] at hsb ⊢
        obtain ⟨X, hX⟩ : ∃ X, ⟨#[115, 111, 117, 114, 99, 101, 32, 120, 32, 61, 32, 45, 32]⟩ ++ S ++ ⟨#[32, 47, 32]⟩ ++ T ++ ⟨#[32, 91]⟩ ++ s_unit ++ ⟨#[93, 32, 58, 32]⟩ ++ T ++ ⟨#[32, 59, 32, 99, 111, 118, 32, 120, 32, 120, 32, 61, 32]⟩ ++ S ++ ⟨#[59]⟩ = X := ⟨_, rfl⟩
        rw [hX] at htx
        have hXs : X.size ≤ 1000000000 := by rw [← length_bytesOf, htx]; exact Nat.le_trans (nums_len (by have := dec_short hna; omega) (by have := dec_short hnb; omega) (by rw [HL.out]; omega)) (by decide)
        obtain ⟨d, e, hV, d1, d2, d3, d4, e1, e2, e3, e4⟩ := nums_all ga gb HA2.out (by rw [HL.out]; omega) (by rw [HL.out]; omega) (by exact nums_len (by have := dec_short hna; omega) (by have := dec_short hnb; omega) (by rw [HL.out]; omega))
        rw [← htx, ← cutL_most] at hV
        have HV := Lib.hid hV
        have HXe := Lib.hid hX
        have HD := Lib.hid (And.intro d2 (And.intro d3 (And.intro d4 (And.intro e1 (And.intro e2 (And.intro e3 e4))))))
        have HNu := Lib.hid hnu
        have HS := Lib.hid hS
        have HTt := Lib.hid hT
        clear htx hnu hS hT hX hV d1 d2 d3 d4 e1 e2 e3 e4 ga gb HA2
        go_wp2_with fail
        refine (pMost_c w2).mono ?_
        rintro e w3 ⟨rfl, bn⟩
        replace bw := below_two bw bn
        clear bn
        go_wp2_with fail
        rw [HXe.out]
        refine (pScript_c X hXs (4000) (60) (2000) (64) w3 (HT0.out.below bw) ([d, e]) (0) (0) HV.out).mono ?_
        rintro e w4 ⟨A_l, n_l, c_l, rfl, h_dl, bn⟩
        replace bw := below_two bw bn
        clear bn
        obtain rfl : n_l = 2 := h_dl.len
        have HU_f := Lib.hid (fitsF (0) (0))
        have h_rf := rowA_new w4 29 (fltC (0) (0))
        have bn := below_new w4 (.cells (fltC (0) (0)) 29)
        replace h_dl := h_dl.below bn
        replace bw := below_two bw bn
        clear bn
        obtain ⟨hnl, hcl⟩ := h_dl.caps
        obtain ⟨gl, ol, ea, hgl, hel⟩ := h_dl.elems (by decide)
        subst ea
        obtain ⟨B0, m0, k0, i0, _⟩ := hel 0 d rfl
        obtain ⟨B1, m1, k1, i1, _⟩ := hel 1 e rfl
        have eq1 : maxLen = 9223372036854775807 := rfl
        have q0 := i0 3 (.string (strOf d.nu)) rfl
        have q1 := i0 5 (.string (strOf d.un)) rfl
        have q2 := i0 4 (.string (strOf d.va)) rfl
        have q3 := i1 0 (.int .i64 e.k) rfl
        have q4 := i1 1 (.string (strOf e.nm)) rfl
        have q5 := i1 2 (.string (strOf e.ot)) rfl
        have q6 := i1 3 (.string (strOf e.nu)) rfl
        obtain ⟨x1, x2, x3, x4, x5, x6, x7⟩ := HD.out
        rw [x1, HNu.out] at q0
        rw [x2, strOf_bytesOf] at q1
        rw [x3, HTt.out] at q2
        rw [x4] at q3
        rw [x5] at q4
        rw [x6] at q5
        rw [x7, HS.out] at q6
        have q4b : strOf [120] = ⟨#[120]⟩ := rfl
        rw [q4b] at q4 q5
        clear hel i0 i1 x1 x2 x3 x4 x5 x6 x7 q4b
        have k0_f := h_rf.cell (k := 0) (v := .int .i64 (0)) rfl
        go_wp2_with (refine wpList_storeNew (by rfl) _ _ _ (by rfl) _ _ _ (by rfl) (by rfl) (by assumption) ?_)
        clear hnl hcl eq1 q0 q1 q2 q3 q4 q5 q6 k0_f
        generalize w4.alloc (.cells (fltC (0) (0)) 29) = w5 at *
        obtain ⟨q_f, eg⟩ : ∃ g, g = w4.heap.size := ⟨_, rfl⟩
        rw [← eg] at h_rf ⊢
        clear eg
        refine (wakes_any w5 (Lib.hid (HT0.out.below bw))).mono ?_
        rintro e w6 ⟨rfl, bn⟩
        replace h_dl := h_dl.below bn
        replace h_rf := h_rf.below bn
        replace bw := below_two bw bn
        clear bn
        go_wp2
        go_ret
        exact ⟨rfl, bw⟩
theorem tab_of {W : World} (h : laidMet Tryd.prog Rows.parseNumsRow.laid W) : PTab W := by
 refine ⟨⟨?_, ?_⟩, ?_, ?_, ?_⟩
 · first | exact kinds_tab (laidMet_drop 0 h) (by decide +kernel) | exact kinds_tab (laidMet_drop 1 h) (by decide +kernel) | exact kinds_tab (laidMet_drop 2 h) (by decide +kernel) | exact kinds_tab (laidMet_drop 3 h) (by decide +kernel) | exact kinds_tab (laidMet_drop 4 h) (by decide +kernel) | exact kinds_tab (laidMet_drop 5 h) (by decide +kernel) | exact kinds_tab (laidMet_drop 6 h) (by decide +kernel) | exact kinds_tab (laidMet_drop 7 h) (by decide +kernel) | exact kinds_tab (laidMet_drop 8 h) (by decide +kernel) | exact kinds_tab (laidMet_drop 9 h) (by decide +kernel) | exact kinds_tab (laidMet_drop 10 h) (by decide +kernel) | exact kinds_tab (laidMet_drop 11 h) (by decide +kernel) | exact kinds_tab (laidMet_drop 12 h) (by decide +kernel) | exact kinds_tab (laidMet_drop 13 h) (by decide +kernel)
 · first | exact lkinds_tab (laidMet_drop 0 h) (by decide +kernel) | exact lkinds_tab (laidMet_drop 1 h) (by decide +kernel) | exact lkinds_tab (laidMet_drop 2 h) (by decide +kernel) | exact lkinds_tab (laidMet_drop 3 h) (by decide +kernel) | exact lkinds_tab (laidMet_drop 4 h) (by decide +kernel) | exact lkinds_tab (laidMet_drop 5 h) (by decide +kernel) | exact lkinds_tab (laidMet_drop 6 h) (by decide +kernel) | exact lkinds_tab (laidMet_drop 7 h) (by decide +kernel) | exact lkinds_tab (laidMet_drop 8 h) (by decide +kernel) | exact lkinds_tab (laidMet_drop 9 h) (by decide +kernel) | exact lkinds_tab (laidMet_drop 10 h) (by decide +kernel) | exact lkinds_tab (laidMet_drop 11 h) (by decide +kernel) | exact lkinds_tab (laidMet_drop 12 h) (by decide +kernel) | exact lkinds_tab (laidMet_drop 13 h) (by decide +kernel)
 · first | exact words_tab (laidMet_drop 0 h) (by decide +kernel) | exact words_tab (laidMet_drop 1 h) (by decide +kernel) | exact words_tab (laidMet_drop 2 h) (by decide +kernel) | exact words_tab (laidMet_drop 3 h) (by decide +kernel) | exact words_tab (laidMet_drop 4 h) (by decide +kernel) | exact words_tab (laidMet_drop 5 h) (by decide +kernel) | exact words_tab (laidMet_drop 6 h) (by decide +kernel) | exact words_tab (laidMet_drop 7 h) (by decide +kernel) | exact words_tab (laidMet_drop 8 h) (by decide +kernel) | exact words_tab (laidMet_drop 9 h) (by decide +kernel) | exact words_tab (laidMet_drop 10 h) (by decide +kernel) | exact words_tab (laidMet_drop 11 h) (by decide +kernel) | exact words_tab (laidMet_drop 12 h) (by decide +kernel) | exact words_tab (laidMet_drop 13 h) (by decide +kernel)
 · first | exact errs_tab (laidMet_drop 0 h) (by decide +kernel) | exact errs_tab (laidMet_drop 1 h) (by decide +kernel) | exact errs_tab (laidMet_drop 2 h) (by decide +kernel) | exact errs_tab (laidMet_drop 3 h) (by decide +kernel) | exact errs_tab (laidMet_drop 4 h) (by decide +kernel) | exact errs_tab (laidMet_drop 5 h) (by decide +kernel) | exact errs_tab (laidMet_drop 6 h) (by decide +kernel) | exact errs_tab (laidMet_drop 7 h) (by decide +kernel) | exact errs_tab (laidMet_drop 8 h) (by decide +kernel) | exact errs_tab (laidMet_drop 9 h) (by decide +kernel) | exact errs_tab (laidMet_drop 10 h) (by decide +kernel) | exact errs_tab (laidMet_drop 11 h) (by decide +kernel) | exact errs_tab (laidMet_drop 12 h) (by decide +kernel) | exact errs_tab (laidMet_drop 13 h) (by decide +kernel)
 · first | exact errr_tab (laidMet_drop 0 h) (by decide +kernel) | exact errr_tab (laidMet_drop 1 h) (by decide +kernel) | exact errr_tab (laidMet_drop 2 h) (by decide +kernel) | exact errr_tab (laidMet_drop 3 h) (by decide +kernel) | exact errr_tab (laidMet_drop 4 h) (by decide +kernel) | exact errr_tab (laidMet_drop 5 h) (by decide +kernel) | exact errr_tab (laidMet_drop 6 h) (by decide +kernel) | exact errr_tab (laidMet_drop 7 h) (by decide +kernel) | exact errr_tab (laidMet_drop 8 h) (by decide +kernel) | exact errr_tab (laidMet_drop 9 h) (by decide +kernel) | exact errr_tab (laidMet_drop 10 h) (by decide +kernel) | exact errr_tab (laidMet_drop 11 h) (by decide +kernel) | exact errr_tab (laidMet_drop 12 h) (by decide +kernel) | exact errr_tab (laidMet_drop 13 h) (by decide +kernel)
set_option maxRecDepth 100000 in
theorem lifted (os : Os) (started : os.Started) (H : Type) (enc : TypeId × Value → H) :
 ReturnsInHanded {} Tryd.checked os 3 .any (fun w args => (Rows.parseNumsSpec.pre enc Tryd.prog Tryd.f3 [] false w args ∧ laidMetH Tryd.prog Rows.parseNumsRow.laid w) ∧ sizedMet enc Tryd.prog Tryd.f3 (OpenSpec.ofChange Rows.parseNumsSpec) false w args)
  (Rows.parseNumsSpec.post enc Tryd.prog Tryd.f3 false true false false) := by
 refine returnsInHanded_of_change_and (C := Tryd.checked) (X := fun w _ => laidMetH Tryd.prog Rows.parseNumsRow.laid w) (fun _ _ _ hh h => h.of_heap hh) own started (by kernel_rfl) Tryd.func3
  (ChangeSpec.witness_shaped (enc := enc) (C := Tryd.checked) (os := os) (X := fun w _ => laidMetH Tryd.prog Rows.parseNumsRow.laid w) false (World.laidAll Tryd.prog os Rows.parseNumsRow.laid) #[.int .u32 0, .int .u32 0, .string ⟨#[]⟩] 8 (World.laidAll_os _ _ _)
    (World.shaped_of_ZipB (by kernel_rfl) (by kernel_rfl)) (by kernel_rfl) (by kernel_rfl) (by kernel_rfl)
    (by rw [MakeChecks.laidMetH_plain _ _ _ (by kernel_rfl)]; exact laidMet_laidAll _ (by kernel_rfl) (by kernel_rfl))) ?_
 intro W base args ds gs before hval0 hW _ _ hL _
 have hval : ∀ (j : Nat) t v, Tryd.f3.params[j]? = some t → args[j]? = some v → Value.okWide Tryd.prog W .any base t v := hval0
 have hW' := hW
 obtain ⟨p, q, hA0, hV, rfl, hfz, hnd⟩ := hW
 have hA : DataW.TrodAll enc Tryd.prog W 0 (fun _ => true) true Tryd.f3.params.toList args.toList ds p := hA0
 rw [Tryd.params3] at hA hval
 obtain ⟨v0, vs0, d0, ds0, p0, q0, hargs, rfl, rfl, h0, r0⟩ := trodAll_cons hA
 obtain ⟨v1, vs1, d1, ds1, p1, q1, rfl, rfl, rfl, h1, r1⟩ := trodAll_cons r0
 obtain ⟨v2, vs2, d2, ds2, p2, q2, rfl, rfl, rfl, h2, r2⟩ := trodAll_cons r1
 obtain ⟨rfl, rfl, rfl⟩ := trodAll_nil r2
 obtain rfl : args = #[v0, v1, v2] := by cases args; simp_all
 obtain ⟨rfl, rfl⟩ := trodVars_none hV
 obtain ⟨a0, rfl, rfl, rfl, w0⟩ := open_int Tryd.underlying22 (hval 0 22 v0 rfl rfl) h0
 obtain ⟨a1, rfl, rfl, rfl, w1⟩ := open_int Tryd.underlying22 (hval 1 22 v1 rfl rfl) h1
 obtain ⟨a2, rfl, rfl, rfl, w2⟩ := Go.ChangeMaps.open_string Tryd.underlying9 (hval 2 9 v2 rfl rfl) h2
 clear hA0 hval0
 simp only [List.append_nil] at hW'
 rw [MakeChecks.laidMetH_plain _ _ _ (by kernel_rfl)] at hL
 refine (walk a0 a1 a2 W w0 w1 w2 (tab_of hL)).mono fun e W' ⟨he, bel⟩ => ?_
 subst he
 exact ⟨_, rfl, _, _, _, [], _, [], hW', trodAll_mk1 (shut_bool Tryd.underlying4 _), (trodAll_cons_mk (shut_int Tryd.underlying22 w0) (trodAll_cons_mk (shut_int Tryd.underlying22 w1) (trodAll_cons_mk (Go.ChangeMaps.shut_string Tryd.underlying9 w2) trodAll_mk0))), rfl, bel.frame _, fun h => by cases h⟩
theorem over : Rows.parseNumsRow.holds Tryd.pinned (OpenSpec.ofChange Rows.parseNumsSpec) :=
 OpenClaim.holds_of_wide 3 Tryd.f3 rfl rfl rfl rfl rfl rfl rfl ⟨rfl, rfl, rfl, rfl, rfl⟩ rfl rfl rfl rfl rfl (by kernel_rfl) Tryd.func3 (by kernel_rfl)
  (of_decide_eq_true (by kernel_rfl)) (by unfold Func.isWrapper; first | (rw [if_pos (by decide +kernel)]; kernel_rfl) | (rw [if_neg (by decide +kernel)]; exact ⟨rfl, rfl⟩))
  (fun os started H enc _ => lifted os started H enc)
theorem proved : Rows.ParseNumsCardSaid :=
 Claim7.holds_tied_plain_at .later [] Rows.parseNumsCard.laidKinds true Rows.parseNumsCard.stood.harness Rows.parseNumsCard.stood.looks
  over (fun _ h => by cases h) (by kernel_rfl) (fun _ h => by cases h) parseNums_row_tie rfl ⟨rfl, rfl⟩ (by kernel_rfl) rfl
  (fun f fn hf hfn => by
    obtain rfl : f = 3 := Option.some.inj ((show Tryd.prog.funcNamed Rows.parseNumsRow.func = some 3 by kernel_rfl).symm.trans hf) |>.symm
    obtain rfl : fn = Tryd.f3 := (Option.some.inj (Tryd.func3.symm.trans hfn)).symm
    exact ⟨by kernel_rfl, fun j t ht => by
     have hm : t ∈ Tryd.f3.params.toList := by simpa using Array.mem_of_getElem? ht
     have hall : (Tryd.f3.params.toList.all fun u => !Tryd.prog.wantsStandIn u) = true := by kernel_rfl
     exact (show Tryd.prog.wantsStandIn t = false by simpa using List.all_eq_true.1 hall t hm)⟩)
  (by kernel_rfl)
end Go.Proofs.YtheaepceghnkpabDoor.lawParseNums
