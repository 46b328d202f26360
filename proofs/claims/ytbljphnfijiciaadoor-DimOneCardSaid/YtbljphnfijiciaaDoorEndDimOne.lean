/- Of any dimension: by none a product, a quotient is as it was, by itself a quotient is none, a power by 1 is it, by -1 what a quotient of none makes; what may not be is told so. Condition: the variables that the row lists read as listed. -/
import Derived.Test.YtbljphnfijiciaaDoorM3
import Derived.Test.YtbljphnfijiciaaDoorCards
import Derived.Test.YtbljphnfijiciaaDoorTie
import Derived.ChangeMaps5
import Derived.Lay
import Derived.SevenTiedAt
/- Of any dimension: by none a product, a quotient is as it was, by itself a quotient is none, a power by 1 is it, by -1 what a quotient of none makes; what may not be is told so. Condition: the variables that the row lists read as listed. -/
namespace Go.Proofs.YtbljphnfijiciaaDoor.lawDimOne
open Go.ChangeShapes Go.WideShapes Go.ChangeAt Go.RowKit Limb
set_option linter.unusedVariables false
theorem i64_wf {xs : List Int} (h : ∀ x ∈ xs, (Lit.int .i64 x).wf = true) : I64 xs := fun x hx => by
 have := h x hx
 have e1 : IntKind.i64.min = -9223372036854775808 := rfl
 have e2 : IntKind.i64.max = 9223372036854775807 := rfl
 simp only [Lit.wf, Bool.and_eq_true, decide_eq_true_eq] at this
 omega
set_option maxHeartbeats 4000000 in
set_option maxRecDepth 100000 in
theorem walk (xs_a : List Int) (w : World) (l_a : xs_a.length = 7) (f_a : ∀ x ∈ xs_a, (Lit.int .i64 x).wf = true) (HT : DTab w) :
 Calls Tryd.prog 6 #[.agg (dimV xs_a)] w fun e w' => e = .returned (.bool true) ∧ Below w.heap.size w w' := by
 have HL_a := Lib.hid l_a
 have H64_a := Lib.hid (i64_wf f_a)
 have HM_a := Lib.hid (many7 l_a)
 have HU_a := Lib.hid (fits7 l_a)
 clear l_a f_a
 by_cases g : goodD xs_a = true
 · have Hg := Lib.hid g
   clear g
   have HM_o := Lib.hid (many7 dim0_len)
   have HU_o := Lib.hid (fits7 dim0_len)
   have bw := bel_refl w
   have h_ra : RowA (w.alloc (.cells (dimV xs_a) 23)) w.heap.size 23 (dimV xs_a) := rowA_new _ _ _
   have bn := below_new w (.cells (dimV xs_a) 23)
   replace HT := HT.below bn
   replace bw := below_two bw bn
   clear bn
   have h_ro : RowA ((w.alloc (.cells (dimV xs_a) 23)).alloc (.cells #[.int .i64 0, .int .i64 0, .int .i64 0, .int .i64 0, .int .i64 0, .int .i64 0, .int .i64 0] 23)) (w.alloc (.cells (dimV xs_a) 23)).heap.size 23 (dimV dim0) := rowA_new _ _ _
   have bn := below_new (w.alloc (.cells (dimV xs_a) 23)) (.cells #[.int .i64 0, .int .i64 0, .int .i64 0, .int .i64 0, .int .i64 0, .int .i64 0, .int .i64 0] 23)
   replace HT := HT.below bn
   replace h_ra := h_ra.below bn
   replace bw := below_two bw bn
   clear bn
   simp only [World.size_alloc] at h_ro
   go_enter Tryd.func6, Tryd.ntmps6
   have HI_a := Lib.hid h_ra.inV
   go_wp2_with (refine wpList_loadV (by rfl) 23 _ (by rfl) _ _ (by rfl) _ (by assumption) (by assumption) ?_)
   clear HI_a
   generalize (w.alloc (.cells (dimV xs_a) 23)).alloc (.cells #[.int .i64 0, .int .i64 0, .int .i64 0, .int .i64 0, .int .i64 0, .int .i64 0, .int .i64 0] 23) = w1 at *
   obtain ⟨q_o, eg⟩ : ∃ g, g = w.heap.size + 1 := ⟨_, rfl⟩
   rw [← eg] at h_ro ⊢
   have e_o := eg
   clear eg
   obtain ⟨q_a, eg⟩ : ∃ g, g = w.heap.size := ⟨_, rfl⟩
   rw [← eg] at h_ra ⊢
   have e_a := eg
   clear eg
   clear e_a e_o
   refine (dGood_c HL_a.out H64_a.out true Hg.out).mono ?_
   rintro e w2 ⟨rfl, bn⟩
   replace HT := HT.below bn
   replace h_ra := h_ra.below bn
   replace h_ro := h_ro.below bn
   replace bw := below_two bw bn
   clear bn
   obtain ⟨t, Lt, F1, F2, F3, F4, F5, F6⟩ := one_facts HL_a.out Hg.out
   have F1 := Lib.hid F1
   have F2 := Lib.hid F2
   have F3 := Lib.hid F3
   have F4 := Lib.hid F4
   have F5 := Lib.hid F5
   have F6 := Lib.hid F6
   have HLt := Lib.hid Lt
   have HM_t := Lib.hid (many7 Lt)
   have HU_t := Lib.hid (fits7 Lt)
   clear Lt
   have HI_a := Lib.hid h_ra.inV
   have HI_o := Lib.hid h_ro.inV
   go_wp2_with (refine wpList_loadV (by rfl) 23 _ (by rfl) _ _ (by rfl) _ (by assumption) (by assumption) ?_)
   clear HI_a HI_o
   refine (dMul_c HL_a.out H64_a.out dim0_len dim0_i64 _ _ F1.out).mono ?_
   rintro e w3 ⟨rfl, bn⟩
   replace HT := HT.below bn
   replace h_ra := h_ra.below bn
   replace h_ro := h_ro.below bn
   replace bw := below_two bw bn
   clear bn
   have h_rm := rowA_new w3 23 (dimV xs_a)
   have bn := below_new w3 (.cells (dimV xs_a) 23)
   replace HT := HT.below bn
   replace h_ra := h_ra.below bn
   replace h_ro := h_ro.below bn
   replace bw := below_two bw bn
   clear bn
   have HI_a := Lib.hid h_ra.inV
   have HI_o := Lib.hid h_ro.inV
   go_wp2_with (first | (refine wpList_loadV (by rfl) 23 _ (by rfl) _ _ (by rfl) _ (by assumption) (by assumption) ?_) | (refine wpList_storeNew (by rfl) 23 _ _ (by rfl) _ _ _ (by rfl) (by rfl) (by assumption) ?_))
   clear HI_a HI_o
   generalize w3.alloc (.cells (dimV xs_a) 23) = w4 at *
   obtain ⟨q_m, eg⟩ : ∃ g, g = w3.heap.size := ⟨_, rfl⟩
   rw [← eg] at h_rm ⊢
   clear eg
   refine (dDiv_c HL_a.out H64_a.out dim0_len dim0_i64 _ _ F2.out).mono ?_
   rintro e w5 ⟨rfl, bn⟩
   replace HT := HT.below bn
   replace h_ra := h_ra.below bn
   replace h_ro := h_ro.below bn
   replace h_rm := h_rm.below bn
   replace bw := below_two bw bn
   clear bn
   have h_rq := rowA_new w5 23 (dimV xs_a)
   have bn := below_new w5 (.cells (dimV xs_a) 23)
   replace HT := HT.below bn
   replace h_ra := h_ra.below bn
   replace h_ro := h_ro.below bn
   replace h_rm := h_rm.below bn
   replace bw := below_two bw bn
   clear bn
   have HI_a := Lib.hid h_ra.inV
   go_wp2_with (first | (refine wpList_loadV (by rfl) 23 _ (by rfl) _ _ (by rfl) _ (by assumption) (by assumption) ?_) | (refine wpList_storeNew (by rfl) 23 _ _ (by rfl) _ _ _ (by rfl) (by rfl) (by assumption) ?_))
   clear HI_a
   generalize w5.alloc (.cells (dimV xs_a) 23) = w6 at *
   obtain ⟨q_q, eg⟩ : ∃ g, g = w5.heap.size := ⟨_, rfl⟩
   rw [← eg] at h_rq ⊢
   clear eg
   refine (dDiv_c HL_a.out H64_a.out HL_a.out H64_a.out _ _ F3.out).mono ?_
   rintro e w7 ⟨rfl, bn⟩
   replace HT := HT.below bn
   replace h_ra := h_ra.below bn
   replace h_ro := h_ro.below bn
   replace h_rm := h_rm.below bn
   replace h_rq := h_rq.below bn
   replace bw := below_two bw bn
   clear bn
   have h_rs := rowA_new w7 23 (dimV dim0)
   have bn := below_new w7 (.cells (dimV dim0) 23)
   replace HT := HT.below bn
   replace h_ra := h_ra.below bn
   replace h_ro := h_ro.below bn
   replace h_rm := h_rm.below bn
   replace h_rq := h_rq.below bn
   replace bw := below_two bw bn
   clear bn
   have HI_a := Lib.hid h_ra.inV
   go_wp2_with (first | (refine wpList_loadV (by rfl) 23 _ (by rfl) _ _ (by rfl) _ (by assumption) (by assumption) ?_) | (refine wpList_storeNew (by rfl) 23 _ _ (by rfl) _ _ _ (by rfl) (by rfl) (by assumption) ?_))
   clear HI_a
   generalize w7.alloc (.cells (dimV dim0) 23) = w8 at *
   obtain ⟨q_s, eg⟩ : ∃ g, g = w7.heap.size := ⟨_, rfl⟩
   rw [← eg] at h_rs ⊢
   clear eg
   refine (dPow_c HL_a.out H64_a.out 1 (by decide) (by decide) _ _ F4.out).mono ?_
   rintro e w9 ⟨rfl, bn⟩
   replace HT := HT.below bn
   replace h_ra := h_ra.below bn
   replace h_ro := h_ro.below bn
   replace h_rm := h_rm.below bn
   replace h_rq := h_rq.below bn
   replace h_rs := h_rs.below bn
   replace bw := below_two bw bn
   clear bn
   have h_rp := rowA_new w9 23 (dimV xs_a)
   have bn := below_new w9 (.cells (dimV xs_a) 23)
   replace HT := HT.below bn
   replace h_ra := h_ra.below bn
   replace h_ro := h_ro.below bn
   replace h_rm := h_rm.below bn
   replace h_rq := h_rq.below bn
   replace h_rs := h_rs.below bn
   replace bw := below_two bw bn
   clear bn
   have HI_a := Lib.hid h_ra.inV
   go_wp2_with (first | (refine wpList_loadV (by rfl) 23 _ (by rfl) _ _ (by rfl) _ (by assumption) (by assumption) ?_) | (refine wpList_storeNew (by rfl) 23 _ _ (by rfl) _ _ _ (by rfl) (by rfl) (by assumption) ?_))
   clear HI_a
   generalize w9.alloc (.cells (dimV xs_a) 23) = w10 at *
   obtain ⟨q_p, eg⟩ : ∃ g, g = w9.heap.size := ⟨_, rfl⟩
   rw [← eg] at h_rp ⊢
   clear eg
   refine (dPow_c HL_a.out H64_a.out (-1) (by decide) (by decide) _ _ F5.out).mono ?_
   rintro e w11 ⟨rfl, bn⟩
   replace HT := HT.below bn
   replace h_ra := h_ra.below bn
   replace h_ro := h_ro.below bn
   replace h_rm := h_rm.below bn
   replace h_rq := h_rq.below bn
   replace h_rs := h_rs.below bn
   replace h_rp := h_rp.below bn
   replace bw := below_two bw bn
   clear bn
   have h_rt := rowA_new w11 23 (dimV t)
   have bn := below_new w11 (.cells (dimV t) 23)
   replace HT := HT.below bn
   replace h_ra := h_ra.below bn
   replace h_ro := h_ro.below bn
   replace h_rm := h_rm.below bn
   replace h_rq := h_rq.below bn
   replace h_rs := h_rs.below bn
   replace h_rp := h_rp.below bn
   replace bw := below_two bw bn
   clear bn
   have HI_o := Lib.hid h_ro.inV
   have HI_a := Lib.hid h_ra.inV
   go_wp2_with (first | (refine wpList_loadV (by rfl) 23 _ (by rfl) _ _ (by rfl) _ (by assumption) (by assumption) ?_) | (refine wpList_storeNew (by rfl) 23 _ _ (by rfl) _ _ _ (by rfl) (by rfl) (by assumption) ?_))
   clear HI_o HI_a
   generalize w11.alloc (.cells (dimV t) 23) = w12 at *
   obtain ⟨q_t, eg⟩ : ∃ g, g = w11.heap.size := ⟨_, rfl⟩
   rw [← eg] at h_rt ⊢
   clear eg
   refine (dDiv_c dim0_len dim0_i64 HL_a.out H64_a.out _ _ F6.out).mono ?_
   rintro e w13 ⟨rfl, bn⟩
   replace HT := HT.below bn
   replace h_ra := h_ra.below bn
   replace h_ro := h_ro.below bn
   replace h_rm := h_rm.below bn
   replace h_rq := h_rq.below bn
   replace h_rs := h_rs.below bn
   replace h_rp := h_rp.below bn
   replace h_rt := h_rt.below bn
   replace bw := below_two bw bn
   clear bn
   have h_ru := rowA_new w13 23 (dimV t)
   have bn := below_new w13 (.cells (dimV t) 23)
   replace HT := HT.below bn
   replace h_ra := h_ra.below bn
   replace h_ro := h_ro.below bn
   replace h_rm := h_rm.below bn
   replace h_rq := h_rq.below bn
   replace h_rs := h_rs.below bn
   replace h_rp := h_rp.below bn
   replace h_rt := h_rt.below bn
   replace bw := below_two bw bn
   clear bn
   have heq1 := fun W => equal_dim (xs := xs_a) (ys := xs_a) HL_a.out HL_a.out (b := true) (by simp) W
   have heq2 := fun W => equal_dim (xs := dim0) (ys := dim0) rfl rfl (b := true) (by simp) W
   have heq3 := fun W => equal_dim (xs := t) (ys := t) HLt.out HLt.out (b := true) (by simp) W
   have HI_m := Lib.hid h_rm.inV
   have HI_q := Lib.hid h_rq.inV
   have HI_s := Lib.hid h_rs.inV
   have HI_p := Lib.hid h_rp.inV
   have HI_t := Lib.hid h_rt.inV
   have HI_u := Lib.hid h_ru.inV
   have HI_a := Lib.hid h_ra.inV
   have HI_o := Lib.hid h_ro.inV
   go_wp2_with (first | (refine wpList_loadV (by rfl) 23 _ (by rfl) _ _ (by rfl) _ (by assumption) (by assumption) ?_) | (refine wpList_storeNew (by rfl) 23 _ _ (by rfl) _ _ _ (by rfl) (by rfl) (by assumption) ?_))
   clear HI_m HI_q HI_s HI_p HI_t HI_u HI_a HI_o heq1 heq2 heq3
   generalize w13.alloc (.cells (dimV t) 23) = w14 at *
   obtain ⟨q_u, eg⟩ : ∃ g, g = w13.heap.size := ⟨_, rfl⟩
   rw [← eg] at h_ru ⊢
   clear eg
   refine (wakes_any _ HT).mono ?_
   rintro e w15 ⟨rfl, bn⟩
   replace HT := HT.below bn
   replace h_ra := h_ra.below bn
   replace h_ro := h_ro.below bn
   replace h_rm := h_rm.below bn
   replace h_rq := h_rq.below bn
   replace h_rs := h_rs.below bn
   replace h_rp := h_rp.below bn
   replace h_rt := h_rt.below bn
   replace h_ru := h_ru.below bn
   replace bw := below_two bw bn
   clear bn
   clear HT
   go_wp2
   go_ret
   exact ⟨rfl, bw⟩
 · have Hg : Hid (goodD xs_a = false) := by show _ = _; simpa using g
   clear g
   have HM_o := Lib.hid (many7 dim0_len)
   have HU_o := Lib.hid (fits7 dim0_len)
   have bw := bel_refl w
   have h_ra : RowA (w.alloc (.cells (dimV xs_a) 23)) w.heap.size 23 (dimV xs_a) := rowA_new _ _ _
   have bn := below_new w (.cells (dimV xs_a) 23)
   replace HT := HT.below bn
   replace bw := below_two bw bn
   clear bn
   have h_ro : RowA ((w.alloc (.cells (dimV xs_a) 23)).alloc (.cells #[.int .i64 0, .int .i64 0, .int .i64 0, .int .i64 0, .int .i64 0, .int .i64 0, .int .i64 0] 23)) (w.alloc (.cells (dimV xs_a) 23)).heap.size 23 (dimV dim0) := rowA_new _ _ _
   have bn := below_new (w.alloc (.cells (dimV xs_a) 23)) (.cells #[.int .i64 0, .int .i64 0, .int .i64 0, .int .i64 0, .int .i64 0, .int .i64 0, .int .i64 0] 23)
   replace HT := HT.below bn
   replace h_ra := h_ra.below bn
   replace bw := below_two bw bn
   clear bn
   simp only [World.size_alloc] at h_ro
   go_enter Tryd.func6, Tryd.ntmps6
   have HI_a := Lib.hid h_ra.inV
   go_wp2_with (refine wpList_loadV (by rfl) 23 _ (by rfl) _ _ (by rfl) _ (by assumption) (by assumption) ?_)
   clear HI_a
   generalize (w.alloc (.cells (dimV xs_a) 23)).alloc (.cells #[.int .i64 0, .int .i64 0, .int .i64 0, .int .i64 0, .int .i64 0, .int .i64 0, .int .i64 0] 23) = w1 at *
   obtain ⟨q_o, eg⟩ : ∃ g, g = w.heap.size + 1 := ⟨_, rfl⟩
   rw [← eg] at h_ro ⊢
   have e_o := eg
   clear eg
   obtain ⟨q_a, eg⟩ : ∃ g, g = w.heap.size := ⟨_, rfl⟩
   rw [← eg] at h_ra ⊢
   have e_a := eg
   clear eg
   clear e_a e_o
   refine (dGood_c HL_a.out H64_a.out false Hg.out).mono ?_
   rintro e w2 ⟨rfl, bn⟩
   replace HT := HT.below bn
   replace h_ra := h_ra.below bn
   replace h_ro := h_ro.below bn
   replace bw := below_two bw bn
   clear bn
   have HI_a := Lib.hid h_ra.inV
   have HI_o := Lib.hid h_ro.inV
   go_wp2_with (refine wpList_loadV (by rfl) 23 _ (by rfl) _ _ (by rfl) _ (by assumption) (by assumption) ?_)
   clear HI_a HI_o
   refine (dMul_c HL_a.out H64_a.out dim0_len dim0_i64 dim0 1 (one_no Hg.out 0 dim0).1).mono ?_
   rintro e w3 ⟨rfl, bn⟩
   replace HT := HT.below bn
   replace h_ra := h_ra.below bn
   replace h_ro := h_ro.below bn
   replace bw := below_two bw bn
   clear bn
   have h_rm := rowA_new w3 23 (dimV dim0)
   have bn := below_new w3 (.cells (dimV dim0) 23)
   replace HT := HT.below bn
   replace h_ra := h_ra.below bn
   replace h_ro := h_ro.below bn
   replace bw := below_two bw bn
   clear bn
   have HI_a := Lib.hid h_ra.inV
   go_wp2_with (first | (refine wpList_loadV (by rfl) 23 _ (by rfl) _ _ (by rfl) _ (by assumption) (by assumption) ?_) | (refine wpList_storeNew (by rfl) 23 _ _ (by rfl) _ _ _ (by rfl) (by rfl) (by assumption) ?_))
   clear HI_a
   generalize w3.alloc (.cells (dimV dim0) 23) = w4 at *
   obtain ⟨q_m, eg⟩ : ∃ g, g = w3.heap.size := ⟨_, rfl⟩
   rw [← eg] at h_rm ⊢
   clear eg
   refine (dPow_c HL_a.out H64_a.out 0 (by decide) (by decide) dim0 1 (one_no Hg.out 0 dim0).2).mono ?_
   rintro e w5 ⟨rfl, bn⟩
   replace HT := HT.below bn
   replace h_ra := h_ra.below bn
   replace h_ro := h_ro.below bn
   replace h_rm := h_rm.below bn
   replace bw := below_two bw bn
   clear bn
   have h_rp := rowA_new w5 23 (dimV dim0)
   have bn := below_new w5 (.cells (dimV dim0) 23)
   replace HT := HT.below bn
   replace h_ra := h_ra.below bn
   replace h_ro := h_ro.below bn
   replace h_rm := h_rm.below bn
   replace bw := below_two bw bn
   clear bn
   go_wp2_with (refine wpList_storeNew (by rfl) 23 _ _ (by rfl) _ _ _ (by rfl) (by rfl) (by assumption) ?_)
   generalize w5.alloc (.cells (dimV dim0) 23) = w6 at *
   obtain ⟨q_p, eg⟩ : ∃ g, g = w5.heap.size := ⟨_, rfl⟩
   rw [← eg] at h_rp ⊢
   clear eg
   refine (wakes_any _ HT).mono ?_
   rintro e w7 ⟨rfl, bn⟩
   replace HT := HT.below bn
   replace h_ra := h_ra.below bn
   replace h_ro := h_ro.below bn
   replace h_rm := h_rm.below bn
   replace h_rp := h_rp.below bn
   replace bw := below_two bw bn
   clear bn
   clear HT
   go_wp2
   go_ret
   exact ⟨rfl, bw⟩
theorem tab_of {W : World} (h : laidMet Tryd.prog Rows.dimOneRow.laid W) : DTab W := by
 refine ⟨?_, ?_⟩
 · first | exact units_tab (laidMet_drop 0 h) (by decide +kernel) | exact units_tab (laidMet_drop 1 h) (by decide +kernel) | exact units_tab (laidMet_drop 2 h) (by decide +kernel) | exact units_tab (laidMet_drop 3 h) (by decide +kernel) | exact units_tab (laidMet_drop 4 h) (by decide +kernel) | exact units_tab (laidMet_drop 5 h) (by decide +kernel) | exact units_tab (laidMet_drop 6 h) (by decide +kernel) | exact units_tab (laidMet_drop 7 h) (by decide +kernel) | exact units_tab (laidMet_drop 8 h) (by decide +kernel) | exact units_tab (laidMet_drop 9 h) (by decide +kernel) | exact units_tab (laidMet_drop 10 h) (by decide +kernel) | exact units_tab (laidMet_drop 11 h) (by decide +kernel) | exact units_tab (laidMet_drop 12 h) (by decide +kernel) | exact units_tab (laidMet_drop 13 h) (by decide +kernel)
 · first | exact pow10_tab (laidMet_drop 0 h) (by decide +kernel) | exact pow10_tab (laidMet_drop 1 h) (by decide +kernel) | exact pow10_tab (laidMet_drop 2 h) (by decide +kernel) | exact pow10_tab (laidMet_drop 3 h) (by decide +kernel) | exact pow10_tab (laidMet_drop 4 h) (by decide +kernel) | exact pow10_tab (laidMet_drop 5 h) (by decide +kernel) | exact pow10_tab (laidMet_drop 6 h) (by decide +kernel) | exact pow10_tab (laidMet_drop 7 h) (by decide +kernel) | exact pow10_tab (laidMet_drop 8 h) (by decide +kernel) | exact pow10_tab (laidMet_drop 9 h) (by decide +kernel) | exact pow10_tab (laidMet_drop 10 h) (by decide +kernel) | exact pow10_tab (laidMet_drop 11 h) (by decide +kernel) | exact pow10_tab (laidMet_drop 12 h) (by decide +kernel) | exact pow10_tab (laidMet_drop 13 h) (by decide +kernel)
set_option maxRecDepth 100000 in
theorem lifted (os : Os) (started : os.Started) (H : Type) (enc : TypeId × Value → H) :
 ReturnsInHanded {} Tryd.checked os 6 .any (fun w args => (Rows.dimOneSpec.pre enc Tryd.prog Tryd.f6 [] false w args ∧ laidMetH Tryd.prog Rows.dimOneRow.laid w) ∧ sizedMet enc Tryd.prog Tryd.f6 (OpenSpec.ofChange Rows.dimOneSpec) false w args)
  (Rows.dimOneSpec.post enc Tryd.prog Tryd.f6 false true false false) := by
 refine returnsInHanded_of_change_and (C := Tryd.checked) (X := fun w _ => laidMetH Tryd.prog Rows.dimOneRow.laid w) (fun _ _ _ hh h => h.of_heap hh) own started (by kernel_rfl) Tryd.func6
  (ChangeSpec.witness_shaped (enc := enc) (C := Tryd.checked) (os := os) (X := fun w _ => laidMetH Tryd.prog Rows.dimOneRow.laid w) false (World.laidAll Tryd.prog os Rows.dimOneRow.laid) #[.agg #[.int .i64 0, .int .i64 0, .int .i64 0, .int .i64 0, .int .i64 0, .int .i64 0, .int .i64 0]] 8 (World.laidAll_os _ _ _)
    (World.shaped_of_ZipB (by kernel_rfl) (by kernel_rfl)) (by kernel_rfl) (by kernel_rfl) (by kernel_rfl)
    (by rw [MakeChecks.laidMetH_plain _ _ _ (by kernel_rfl)]; exact laidMet_laidAll _ (by kernel_rfl) (by kernel_rfl))) ?_
 intro W base args ds gs before hval0 hW _ _ hL _
 have hval : ∀ (j : Nat) t v, Tryd.f6.params[j]? = some t → args[j]? = some v → Value.okWide Tryd.prog W .any base t v := hval0
 have hW' := hW
 obtain ⟨p, q, hA0, hV, rfl, hfz, hnd⟩ := hW
 have hA : DataW.TrodAll enc Tryd.prog W 0 (fun _ => true) true Tryd.f6.params.toList args.toList ds p := hA0
 rw [Tryd.params6] at hA hval
 obtain ⟨v0, vs0, d0, ds0, p0, q0, hargs, rfl, rfl, h0, r0⟩ := trodAll_cons hA
 obtain ⟨rfl, rfl, rfl⟩ := trodAll_nil r0
 obtain rfl : args = #[v0] := by cases args; simp_all
 obtain ⟨rfl, rfl⟩ := trodVars_none hV
 obtain ⟨z0, rfl, w0, u0⟩ := open_arr (n := 7) (K := .i64) Tryd.underlying23 Tryd.underlying3 (by kernel_rfl) (by kernel_rfl) (hval 0 23 v0 rfl rfl) h0
 clear hA0 hval0
 simp only [List.append_nil] at hW'
 rw [MakeChecks.laidMetH_plain _ _ _ (by kernel_rfl)] at hL
 refine (walk z0 W w0 u0 (tab_of hL)).mono fun e W' ⟨he, bel⟩ => ?_
 subst he
 exact ⟨_, rfl, _, _, _, [], _, [], hW', trodAll_mk1 (shut_bool Tryd.underlying4 _), (trodAll_cons_mk (Below.trod laidOut (by kernel_rfl) (of_decide_eq_true (by kernel_rfl)) h0 bel (places_lt h0)) trodAll_mk0), rfl, bel.frame _, fun h => by cases h⟩
theorem over : Rows.dimOneRow.holds Tryd.pinned (OpenSpec.ofChange Rows.dimOneSpec) :=
 OpenClaim.holds_of_wide 6 Tryd.f6 rfl rfl rfl rfl rfl rfl rfl ⟨rfl, rfl, rfl, rfl, rfl⟩ rfl rfl rfl rfl rfl (by kernel_rfl) Tryd.func6 (by kernel_rfl)
  (of_decide_eq_true (by kernel_rfl)) (by unfold Func.isWrapper; first | (rw [if_pos (by decide +kernel)]; kernel_rfl) | (rw [if_neg (by decide +kernel)]; exact ⟨rfl, rfl⟩))
  (fun os started H enc _ => lifted os started H enc)
theorem proved : Rows.DimOneCardSaid :=
 Claim7.holds_tied_plain_at .later [] Rows.dimOneCard.laidKinds true Rows.dimOneCard.stood.harness Rows.dimOneCard.stood.looks
  over (fun _ h => by cases h) (by kernel_rfl) (fun _ h => by cases h) dimOne_row_tie rfl ⟨rfl, rfl⟩ (by kernel_rfl) rfl
  (fun f fn hf hfn => by
    obtain rfl : f = 6 := Option.some.inj ((show Tryd.prog.funcNamed Rows.dimOneRow.func = some 6 by kernel_rfl).symm.trans hf) |>.symm
    obtain rfl : fn = Tryd.f6 := (Option.some.inj (Tryd.func6.symm.trans hfn)).symm
    exact ⟨by kernel_rfl, fun j t ht => by
     have hm : t ∈ Tryd.f6.params.toList := by simpa using Array.mem_of_getElem? ht
     have hall : (Tryd.f6.params.toList.all fun u => !Tryd.prog.wantsStandIn u) = true := by kernel_rfl
     exact (show Tryd.prog.wantsStandIn t = false by simpa using List.all_eq_true.1 hall t hm)⟩)
  (by kernel_rfl)
end Go.Proofs.YtbljphnfijiciaaDoor.lawDimOne
