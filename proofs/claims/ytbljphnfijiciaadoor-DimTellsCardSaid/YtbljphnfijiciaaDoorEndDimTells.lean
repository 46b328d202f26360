/- Of any two dimensions and any number: what package dim tells is what the document tells. Condition: the variables that the row lists read as listed. -/
import Derived.Test.YtbljphnfijiciaaDoorM3
import Derived.Deep.RegionWith
import Derived.Test.YtbljphnfijiciaaDoorCards
import Derived.Test.YtbljphnfijiciaaDoorTie
import Derived.ChangeMaps5
import Derived.Lay
import Derived.SevenTiedAt
/- What the reference of layer 11 answers (Good, may, Mul, Pow), as contracts over memory. Condition: seven exponents. -/
namespace Go.Proofs.YtbljphnfijiciaaDoor
open Go.RowKit Limb
set_option linter.unusedVariables false
theorem good_step {xs : List Int} {i : Nat} (h : i < xs.length) : goodD (xs.take (i + 1)) = (goodD (xs.take i) && goodE (xs.getD i 0)) := by
 have e : xs.getD i 0 = xs[i] := by simp [List.getD_eq_getElem?_getD, h]
 rw [e]
 unfold goodD
 rw [List.take_succ_eq_append_getElem h, List.all_append]
 simp
theorem good_not {xs : List Int} {i : Nat} (h : i < xs.length) (hx : xs.getD i 0 < -200 ∨ 200 < xs.getD i 0) : goodD xs = false := by
 rw [Bool.eq_false_iff]
 intro hg
 have e : xs.getD i 0 = xs[i] := by simp [List.getD_eq_getElem?_getD, h]
 have := goodD_iff.1 hg _ (List.getElem_mem (n := i) h)
 rw [e] at hx
 omega
section
variable {w : World} {xs ys : List Int}
set_option maxHeartbeats 4000000 in
set_option maxRecDepth 100000 in
theorem refDGood_c (hx : xs.length = 7) (v : Bool) (hv : goodD xs = v) :
 Calls Tryd.prog 13 #[.agg (dimV xs)] w fun e w' => e = .returned (.bool v) ∧ Below w.heap.size w w' := by
 have HV := Lib.hid hv
 clear hv
 have b0 := below_new w (.cells (dimV xs) 23)
 have h_rx := rowA_new w 23 (dimV xs)
 have HB := Lib.hid b0
 have HX := Lib.hid hx
 clear b0 hx
 go_enter Tryd.func13, Tryd.ntmps13
 go_wp2_with fail
 generalize w.alloc (.cells (dimV xs) 23) = w1 at *
 obtain ⟨q_x, eg⟩ : ∃ g, g = w.heap.size := ⟨_, rfl⟩
 rw [← eg] at h_rx ⊢
 clear eg
 go_loopw [3] (fun iv wr => ∃ i : Nat, i ≤ 7 ∧ iv = .int .i64 (i : Int) ∧ Hid (goodD (xs.take i) = true) ∧ w1 = wr) (fun iv _ => 7 - (intOf iv).toNat)
 · exact ⟨0, by decide, rfl, by show goodD _ = true; rw [List.take_zero]; rfl, rfl⟩
 · obtain ⟨i, hi, rfl, hg, rfl⟩ := hrel
   by_cases h7 : i < 7
   · have c0 := h_rx.int (i := i) (by rw [HX.out]; exact h7)
     have hs := good_step (xs := xs) (i := i) (by rw [HX.out]; exact h7)
     have hn := good_not (xs := xs) (i := i) (by rw [HX.out]; exact h7)
     rw [hg.out, Bool.true_and] at hs
     have hs := Lib.hid hs
     have hn := Lib.hid hn
     generalize xs.getD i 0 = x at *
     clear h_rx
     by_cases k1 : x < -200
     · have hf := hn.out (.inl k1)
       rw [HV.out] at hf
       subst hf
       go_wp2
       go_ret
       exact ⟨rfl, HB.out⟩
     · by_cases k2 : 200 < x
       · have hf := hn.out (.inr k2)
         rw [HV.out] at hf
         subst hf
         go_wp2
         go_ret
         exact ⟨rfl, HB.out⟩
       · have hs2 : Hid (goodD (xs.take (i + 1)) = true) := by show _ = _; rw [hs.out]; exact goodE_iff.2 (by omega)
         clear hs hn hg
         go_wp2
         exact ⟨⟨i + 1, by omega, by simp, hs2, trivial⟩, by simp [intOf]; omega⟩
   · obtain rfl : i = 7 := by omega
     have hf := hg.out
     rw [List.take_of_length_le (by rw [HX.out]; decide), HV.out] at hf
     subst hf
     clear h_rx hg
     go_wp2
     go_ret
     exact ⟨rfl, HB.out⟩
def gotV (zs : List Int) (e : Int) : Array Value := ints .i64 (zs ++ [e])
theorem size8 : (Tryd.prog.info? 29).map (·.size) = some 8 := by kernel_rfl
theorem size_gotV {zs : List Int} {e : Int} (h : zs.length = 7) : (gotV zs e).size = 8 := (size_ints _ _).trans (by rw [List.length_append, h]; rfl)
theorem many8 {zs : List Int} {e : Int} (h : zs.length = 7) : Many Tryd.prog 29 (gotV zs e).size := ⟨by rw [size_gotV h]; exact size8, _, Tryd.underlying29, rfl⟩
theorem got_info {zs : List Int} {e : Int} (h : zs.length = 7) : (Tryd.prog.info? 29).map (·.size) = some (gotV zs e).size := by rw [size_gotV h]; exact size8
theorem fits8 {zs : List Int} {e : Int} (h : zs.length = 7) : Many Tryd.prog 29 (gotV zs e).size ∧ (#[.int .i64 0, .int .i64 0, .int .i64 0, .int .i64 0, .int .i64 0, .int .i64 0, .int .i64 0, .int .i64 0] : Array Value).size = (gotV zs e).size ∧ ∀ v ∈ gotV zs e, v.oneCell' = true := ⟨many8 h, by rw [size_gotV h]; rfl, ints_one⟩
theorem build_got {zs : List Int} (h : zs.length = 7) (W : World) : (Instr.build 29 ([(0, .agg (dimV zs))] : List (Nat × Value)).toArray).run Tryd.prog W = .ok (.agg (gotV zs 0)) W := by
 obtain ⟨a, b, c, d, e, f, g, rfl⟩ := len7 h
 kernel_rfl
set_option maxHeartbeats 4000000 in
set_option maxRecDepth 100000 in
theorem refDMay_c (hx_xs : xs.length = 7) (R : List Int) (E : Int) (hR : mayD xs = (R, E)) :
 Calls Tryd.prog 19 #[.agg (dimV xs)] w fun e w' => e = .returned (.agg (gotV R E)) ∧ Below w.heap.size w w' := by
 have HX_xs := Lib.hid hx_xs
 have HM_xs := Lib.hid (many7 hx_xs)
 clear hx_xs
 unfold mayD at hR
 by_cases g : goodD xs = true
 · rw [if_pos g] at hR
   have Hg := Lib.hid g
   clear g
   have bw := bel_refl w
   have h_rxs := rowA_new w 23 (dimV xs)
   have bn := below_new w (.cells (dimV xs) 23)
   replace bw := below_two bw bn
   clear bn
   have h_rz := rowA_new (w.alloc (.cells (dimV xs) 23)) 29 #[.int .i64 0, .int .i64 0, .int .i64 0, .int .i64 0, .int .i64 0, .int .i64 0, .int .i64 0, .int .i64 0]
   have bn := below_new (w.alloc (.cells (dimV xs) 23)) (.cells #[.int .i64 0, .int .i64 0, .int .i64 0, .int .i64 0, .int .i64 0, .int .i64 0, .int .i64 0, .int .i64 0] 29)
   replace h_rxs := h_rxs.below bn
   replace bw := below_two bw bn
   clear bn
   simp only [World.size_alloc] at h_rz
   go_enter Tryd.func19, Tryd.ntmps19
   have HI_xs := Lib.hid h_rxs.inV
   go_wp2_with (refine wpList_loadV (by rfl) 23 _ (by rfl) _ _ (by rfl) _ (by assumption) (by assumption) ?_)
   clear HI_xs
   generalize (w.alloc (.cells (dimV xs) 23)).alloc (.cells #[.int .i64 0, .int .i64 0, .int .i64 0, .int .i64 0, .int .i64 0, .int .i64 0, .int .i64 0, .int .i64 0] 29) = w1 at *
   obtain ⟨q_z, eg⟩ : ∃ g, g = w.heap.size + 1 := ⟨_, rfl⟩
   have hqz : Hid (w.heap.size ≤ q_z) := by show _ ≤ _; omega
   rw [← eg] at h_rz ⊢
   have ez := eg
   clear eg
   obtain ⟨q_xs, eg⟩ : ∃ g, g = w.heap.size := ⟨_, rfl⟩
   have hqxs : Hid (w.heap.size ≤ q_xs ∧ q_xs ≠ q_z) := by constructor <;> omega
   rw [← eg] at h_rxs ⊢
   have e_xs := eg
   clear eg
   clear ez e_xs
   refine (refDGood_c HX_xs.out true Hg.out).mono ?_
   rintro e w2 ⟨rfl, bn⟩
   replace h_rxs := h_rxs.below bn
   replace h_rz := h_rz.below bn
   replace bw := below_two bw bn
   clear bn
   obtain ⟨rfl, rfl⟩ : xs = R ∧ 0 = E := by simpa using hR
   have HL := Lib.hid HX_xs.out
   have HU := Lib.hid (fits8 (e := 0) HL.out)
   have HZr := Lib.hid h_rz
   have HF := Lib.hid (h_rz.fill (V' := gotV xs 0))
   have HB := Lib.hid (below_fillRow bw hqz.out (gotV xs 0))
   have HBd := Lib.hid (build_got HX_xs.out)
   have HI_xs := Lib.hid h_rxs.inV
   go_wp2_with (first | (refine wpList_loadV (by rfl) 23 _ (by rfl) _ _ (by rfl) _ (by assumption) (by assumption) ?_) | (refine wpList_buildV (by rfl) 29 _ (by rfl) _ (by rfl) _ (by assumption) ?_) | (refine wpList_storeV (by rfl) 29 _ _ (by rfl) _ (by rfl) _ (by rfl) _ _ (by assumption) (by assumption) ?_))
   refine bodyPost_ret (results_cell_row rfl _ _ _ 29 (gotV xs 0) (0, 0) _ rfl HF.out Tryd.underlying29 rfl (got_info HL.out)) rfl ?_
   exact ⟨rfl, HB.out⟩
 · rw [if_neg g] at hR
   have Hg : Hid (goodD xs = false) := by show _ = _; simpa using g
   clear g
   have bw := bel_refl w
   have h_rxs := rowA_new w 23 (dimV xs)
   have bn := below_new w (.cells (dimV xs) 23)
   replace bw := below_two bw bn
   clear bn
   have h_rz := rowA_new (w.alloc (.cells (dimV xs) 23)) 29 #[.int .i64 0, .int .i64 0, .int .i64 0, .int .i64 0, .int .i64 0, .int .i64 0, .int .i64 0, .int .i64 0]
   have bn := below_new (w.alloc (.cells (dimV xs) 23)) (.cells #[.int .i64 0, .int .i64 0, .int .i64 0, .int .i64 0, .int .i64 0, .int .i64 0, .int .i64 0, .int .i64 0] 29)
   replace h_rxs := h_rxs.below bn
   replace bw := below_two bw bn
   clear bn
   simp only [World.size_alloc] at h_rz
   go_enter Tryd.func19, Tryd.ntmps19
   have HI_xs := Lib.hid h_rxs.inV
   go_wp2_with (refine wpList_loadV (by rfl) 23 _ (by rfl) _ _ (by rfl) _ (by assumption) (by assumption) ?_)
   clear HI_xs
   generalize (w.alloc (.cells (dimV xs) 23)).alloc (.cells #[.int .i64 0, .int .i64 0, .int .i64 0, .int .i64 0, .int .i64 0, .int .i64 0, .int .i64 0, .int .i64 0] 29) = w1 at *
   obtain ⟨q_z, eg⟩ : ∃ g, g = w.heap.size + 1 := ⟨_, rfl⟩
   have hqz : Hid (w.heap.size ≤ q_z) := by show _ ≤ _; omega
   rw [← eg] at h_rz ⊢
   have ez := eg
   clear eg
   obtain ⟨q_xs, eg⟩ : ∃ g, g = w.heap.size := ⟨_, rfl⟩
   have hqxs : Hid (w.heap.size ≤ q_xs ∧ q_xs ≠ q_z) := by constructor <;> omega
   rw [← eg] at h_rxs ⊢
   have e_xs := eg
   clear eg
   clear ez e_xs
   refine (refDGood_c HX_xs.out false Hg.out).mono ?_
   rintro e w2 ⟨rfl, bn⟩
   replace h_rxs := h_rxs.below bn
   replace h_rz := h_rz.below bn
   replace bw := below_two bw bn
   clear bn
   obtain ⟨rfl, rfl⟩ : dim0 = R ∧ 2 = E := by simpa using hR
   have HL : Hid (dim0.length = 7) := rfl
   have HU := Lib.hid (fits8 (e := 2) HL.out)
   have HZr := Lib.hid h_rz
   have HF := Lib.hid (h_rz.fill (V' := gotV dim0 2))
   have HB := Lib.hid (below_fillRow bw hqz.out (gotV dim0 2))
   go_wp2_with (refine wpList_storeV (by rfl) 29 _ _ (by rfl) _ (by rfl) _ (by rfl) _ _ (by assumption) (by assumption) ?_)
   refine bodyPost_ret (results_cell_row rfl _ _ _ 29 (gotV dim0 2) (0, 0) _ rfl HF.out Tryd.underlying29 rfl (got_info HL.out)) rfl ?_
   exact ⟨rfl, HB.out⟩
set_option maxHeartbeats 4000000 in
set_option maxRecDepth 100000 in
theorem refDMul_c (hx_xs : xs.length = 7) (hx_ys : ys.length = 7) (n : Int) (hn : -201 ≤ n ∧ n ≤ 201) (R : List Int) (E : Int) (hR : withD xs ys n = (R, E)) :
 Calls Tryd.prog 10 #[.agg (dimV xs), .agg (dimV ys), .int .i64 n] w fun e w' => e = .returned (.agg (gotV R E)) ∧ Below w.heap.size w w' := by
 unfold withD at hR
 have HN := Lib.hid hn
 have HX_xs := Lib.hid hx_xs
 have HM_xs := Lib.hid (many7 hx_xs)
 clear hx_xs
 have HX_ys := Lib.hid hx_ys
 have HM_ys := Lib.hid (many7 hx_ys)
 clear hx_ys
 by_cases ga : goodD xs = true
 · by_cases gb : goodD ys = true
   · rw [if_pos ⟨ga, gb⟩] at hR
     have Hga := Lib.hid ga
     have Hgb := Lib.hid gb
     have HR := Lib.hid hR
     clear ga gb hR
     have bw := bel_refl w
     have h_rxs := rowA_new w 23 (dimV xs)
     have bn := below_new w (.cells (dimV xs) 23)
     replace bw := below_two bw bn
     clear bn
     have h_rys := rowA_new (w.alloc (.cells (dimV xs) 23)) 23 (dimV ys)
     have bn := below_new (w.alloc (.cells (dimV xs) 23)) (.cells (dimV ys) 23)
     replace h_rxs := h_rxs.below bn
     replace bw := below_two bw bn
     clear bn
     have h_rz := rowA_new ((w.alloc (.cells (dimV xs) 23)).alloc (.cells (dimV ys) 23)) 29 #[.int .i64 0, .int .i64 0, .int .i64 0, .int .i64 0, .int .i64 0, .int .i64 0, .int .i64 0, .int .i64 0]
     have bn := below_new ((w.alloc (.cells (dimV xs) 23)).alloc (.cells (dimV ys) 23)) (.cells #[.int .i64 0, .int .i64 0, .int .i64 0, .int .i64 0, .int .i64 0, .int .i64 0, .int .i64 0, .int .i64 0] 29)
     replace h_rxs := h_rxs.below bn
     replace h_rys := h_rys.below bn
     replace bw := below_two bw bn
     clear bn
     simp only [World.size_alloc] at h_rys h_rz
     go_enter Tryd.func10, Tryd.ntmps10
     have HI_xs := Lib.hid h_rxs.inV
     go_wp2_with (refine wpList_loadV (by rfl) 23 _ (by rfl) _ _ (by rfl) _ (by assumption) (by assumption) ?_)
     clear HI_xs
     generalize ((w.alloc (.cells (dimV xs) 23)).alloc (.cells (dimV ys) 23)).alloc (.cells #[.int .i64 0, .int .i64 0, .int .i64 0, .int .i64 0, .int .i64 0, .int .i64 0, .int .i64 0, .int .i64 0] 29) = w1 at *
     obtain ⟨q_z, eg⟩ : ∃ g, g = w.heap.size + 1 + 1 := ⟨_, rfl⟩
     have hqz : Hid (w.heap.size ≤ q_z) := by show _ ≤ _; omega
     rw [← eg] at h_rz ⊢
     have ez := eg
     clear eg
     obtain ⟨q_ys, eg⟩ : ∃ g, g = w.heap.size + 1 := ⟨_, rfl⟩
     have hqys : Hid (w.heap.size ≤ q_ys ∧ q_ys ≠ q_z) := by constructor <;> omega
     rw [← eg] at h_rys ⊢
     have e_ys := eg
     clear eg
     obtain ⟨q_xs, eg⟩ : ∃ g, g = w.heap.size := ⟨_, rfl⟩
     have hqxs : Hid (w.heap.size ≤ q_xs ∧ q_xs ≠ q_z) := by constructor <;> omega
     rw [← eg] at h_rxs ⊢
     have e_xs := eg
     clear eg
     have hne_xs_ys : Hid (q_xs ≠ q_ys) := by show _ ≠ _; omega
     clear ez e_xs e_ys
     refine (refDGood_c HX_xs.out true Hga.out).mono ?_
     rintro e w2 ⟨rfl, bn⟩
     replace h_rxs := h_rxs.below bn
     replace h_rys := h_rys.below bn
     replace h_rz := h_rz.below bn
     replace bw := below_two bw bn
     clear bn
     have HI_ys := Lib.hid h_rys.inV
     go_wp2_with (refine wpList_loadV (by rfl) 23 _ (by rfl) _ _ (by rfl) _ (by assumption) (by assumption) ?_)
     clear HI_ys
     refine (refDGood_c HX_ys.out true Hgb.out).mono ?_
     rintro e w3 ⟨rfl, bn⟩
     replace h_rxs := h_rxs.below bn
     replace h_rys := h_rys.below bn
     replace h_rz := h_rz.below bn
     replace bw := below_two bw bn
     clear bn
     go_wp2_with fail
     go_loopw [7] (fun iv wr => ∃ i : Nat, i ≤ 7 ∧ iv = .int .i64 (i : Int) ∧ Hid (RowA wr q_xs 23 (dimV (addTo xs ys n i))) ∧ Hid (RowA wr q_ys 23 (dimV ys)) ∧ Hid (RowA wr q_z 29 #[.int .i64 0, .int .i64 0, .int .i64 0, .int .i64 0, .int .i64 0, .int .i64 0, .int .i64 0, .int .i64 0]) ∧ Hid (Below w.heap.size w wr)) (fun iv _ => 7 - (intOf iv).toNat)
     · exact ⟨0, by decide, rfl, by rw [addTo_zero (by rw [HX_xs.out, HX_ys.out])]; exact h_rxs, h_rys, h_rz, bw⟩
     · obtain ⟨i, hi, rfl, hA, hY, hB, hb⟩ := hrel
       clear h_rxs h_rys h_rz bw
       by_cases h7 : i < 7
       · have hr1 := good_at Hga.out (i := i) (by rw [HX_xs.out]; exact h7)
         have hr2 := good_at Hgb.out (i := i) (by rw [HX_ys.out]; exact h7)
         obtain ⟨p, hp⟩ : ∃ p, n * ys.getD i 0 = p := ⟨_, rfl⟩
         have hpb := times_bound HN.out hr2 hp
         have hwp : wrap64 (n * ys.getD i 0) = p := by rw [hp]; exact IntWalk.wrap64_in p ⟨by omega, by omega⟩
         have hwq : IntKind.i64.wrap (n * ys.getD i 0) = p := by rw [hp, IntKind.wrap_i64]; omega
         have hwr : IntKind.i64.wrap (xs.getD i 0 + p) = xs.getD i 0 + p := by rw [IntKind.wrap_i64]; omega
         have HS := Lib.hid (hA.out.setInt i (xs.getD i 0 + p))
         rw [← hp, addTo_step (by rw [HX_xs.out]; exact h7) (by rw [HX_ys.out]; exact h7), hp] at HS
         have c0 := hA.out.int (i := i) (by rw [len_addTo, HX_xs.out, HX_ys.out]; omega)
         rw [addTo_at (by rw [HX_xs.out]; exact h7) (by rw [HX_ys.out]; exact h7)] at c0
         have f0 := hA.out.free i
         have c1 := hY.out.int (i := i) (by rw [HX_ys.out]; exact h7)
         have HY := Lib.hid (hY.out.far hne_xs_ys.out i (.int .i64 (xs.getD i 0 + p)))
         have HF := Lib.hid (hB.out.far hqxs.out.2 i (.int .i64 (xs.getD i 0 + p)))
         have HB := Lib.hid (hb.out.setCell (p := ⟨q_xs, i, none⟩) hqxs.out.1 (.int .i64 (xs.getD i 0 + p)))
         generalize xs.getD i 0 = x at *
         generalize ys.getD i 0 = y at *
         clear hA hB hb hY hp hr2
         obtain ⟨hr1, hr2⟩ := hr1
         obtain ⟨hpb1, hpb2⟩ := hpb
         go_wp2_with (go_region)
         all_goals exact ⟨⟨i + 1, by omega, by simp, HS, HY, HF, HB.out.drew⟩, by simp [intOf]; omega⟩
       · obtain rfl : i = 7 := by omega
         rw [addTo_all HX_xs.out HX_ys.out] at hA
         have h_rxs := hA.out
         have h_rz := hB.out
         have bw := hb.out
         clear hA hB hb h7 hY
         have HL : Hid ((addN xs ys n).length = 7) := len_addN HX_xs.out HX_ys.out
         have HM := Lib.hid (many7 HL.out)
         have HI_xs := Lib.hid h_rxs.inV
         go_wp2_with (refine wpList_loadV (by rfl) 23 _ (by rfl) _ _ (by rfl) _ (by assumption) (by assumption) ?_)
         clear HI_xs
         refine (refDMay_c HL.out R E HR.out).mono ?_
         rintro e w41 ⟨rfl, bn⟩
         replace h_rz := h_rz.below bn
         replace bw := below_two bw bn
         clear bn
         have HL : Hid (R.length = 7) := mayD_len HR.out HL.out
         have HU := Lib.hid (fits8 (e := E) HL.out)
         have HZr := Lib.hid h_rz
         have HF := Lib.hid (h_rz.fill (V' := gotV R E))
         have HB := Lib.hid (below_fillRow bw hqz.out (gotV R E))
         go_wp2_with (refine wpList_storeV (by rfl) 29 _ _ (by rfl) _ (by rfl) _ (by rfl) _ _ (by assumption) (by assumption) ?_)
         refine bodyPost_ret (results_cell_row rfl _ _ _ 29 (gotV R E) (0, 0) _ rfl HF.out Tryd.underlying29 rfl (got_info HL.out)) rfl ?_
         exact ⟨rfl, HB.out⟩
   · rw [if_neg (fun h => gb h.2)] at hR
     have Hga := Lib.hid ga
     have Hgb : Hid (goodD ys = false) := by show _ = _; simpa using gb
     clear ga gb
     have bw := bel_refl w
     have h_rxs := rowA_new w 23 (dimV xs)
     have bn := below_new w (.cells (dimV xs) 23)
     replace bw := below_two bw bn
     clear bn
     have h_rys := rowA_new (w.alloc (.cells (dimV xs) 23)) 23 (dimV ys)
     have bn := below_new (w.alloc (.cells (dimV xs) 23)) (.cells (dimV ys) 23)
     replace h_rxs := h_rxs.below bn
     replace bw := below_two bw bn
     clear bn
     have h_rz := rowA_new ((w.alloc (.cells (dimV xs) 23)).alloc (.cells (dimV ys) 23)) 29 #[.int .i64 0, .int .i64 0, .int .i64 0, .int .i64 0, .int .i64 0, .int .i64 0, .int .i64 0, .int .i64 0]
     have bn := below_new ((w.alloc (.cells (dimV xs) 23)).alloc (.cells (dimV ys) 23)) (.cells #[.int .i64 0, .int .i64 0, .int .i64 0, .int .i64 0, .int .i64 0, .int .i64 0, .int .i64 0, .int .i64 0] 29)
     replace h_rxs := h_rxs.below bn
     replace h_rys := h_rys.below bn
     replace bw := below_two bw bn
     clear bn
     simp only [World.size_alloc] at h_rys h_rz
     go_enter Tryd.func10, Tryd.ntmps10
     have HI_xs := Lib.hid h_rxs.inV
     go_wp2_with (refine wpList_loadV (by rfl) 23 _ (by rfl) _ _ (by rfl) _ (by assumption) (by assumption) ?_)
     clear HI_xs
     generalize ((w.alloc (.cells (dimV xs) 23)).alloc (.cells (dimV ys) 23)).alloc (.cells #[.int .i64 0, .int .i64 0, .int .i64 0, .int .i64 0, .int .i64 0, .int .i64 0, .int .i64 0, .int .i64 0] 29) = w1 at *
     obtain ⟨q_z, eg⟩ : ∃ g, g = w.heap.size + 1 + 1 := ⟨_, rfl⟩
     have hqz : Hid (w.heap.size ≤ q_z) := by show _ ≤ _; omega
     rw [← eg] at h_rz ⊢
     have ez := eg
     clear eg
     obtain ⟨q_ys, eg⟩ : ∃ g, g = w.heap.size + 1 := ⟨_, rfl⟩
     have hqys : Hid (w.heap.size ≤ q_ys ∧ q_ys ≠ q_z) := by constructor <;> omega
     rw [← eg] at h_rys ⊢
     have e_ys := eg
     clear eg
     obtain ⟨q_xs, eg⟩ : ∃ g, g = w.heap.size := ⟨_, rfl⟩
     have hqxs : Hid (w.heap.size ≤ q_xs ∧ q_xs ≠ q_z) := by constructor <;> omega
     rw [← eg] at h_rxs ⊢
     have e_xs := eg
     clear eg
     have hne_xs_ys : Hid (q_xs ≠ q_ys) := by show _ ≠ _; omega
     clear ez e_xs e_ys
     refine (refDGood_c HX_xs.out true Hga.out).mono ?_
     rintro e w2 ⟨rfl, bn⟩
     replace h_rxs := h_rxs.below bn
     replace h_rys := h_rys.below bn
     replace h_rz := h_rz.below bn
     replace bw := below_two bw bn
     clear bn
     have HI_ys := Lib.hid h_rys.inV
     go_wp2_with (refine wpList_loadV (by rfl) 23 _ (by rfl) _ _ (by rfl) _ (by assumption) (by assumption) ?_)
     clear HI_ys
     refine (refDGood_c HX_ys.out false Hgb.out).mono ?_
     rintro e w3 ⟨rfl, bn⟩
     replace h_rxs := h_rxs.below bn
     replace h_rys := h_rys.below bn
     replace h_rz := h_rz.below bn
     replace bw := below_two bw bn
     clear bn
     obtain ⟨rfl, rfl⟩ : dim0 = R ∧ 1 = E := by simpa using hR
     have HL : Hid (dim0.length = 7) := rfl
     have HU := Lib.hid (fits8 (e := 1) HL.out)
     have HZr := Lib.hid h_rz
     have HF := Lib.hid (h_rz.fill (V' := gotV dim0 1))
     have HB := Lib.hid (below_fillRow bw hqz.out (gotV dim0 1))
     go_wp2_with (refine wpList_storeV (by rfl) 29 _ _ (by rfl) _ (by rfl) _ (by rfl) _ _ (by assumption) (by assumption) ?_)
     refine bodyPost_ret (results_cell_row rfl _ _ _ 29 (gotV dim0 1) (0, 0) _ rfl HF.out Tryd.underlying29 rfl (got_info HL.out)) rfl ?_
     exact ⟨rfl, HB.out⟩
 · rw [if_neg (fun h => ga h.1)] at hR
   have Hga : Hid (goodD xs = false) := by show _ = _; simpa using ga
   clear ga
   have bw := bel_refl w
   have h_rxs := rowA_new w 23 (dimV xs)
   have bn := below_new w (.cells (dimV xs) 23)
   replace bw := below_two bw bn
   clear bn
   have h_rys := rowA_new (w.alloc (.cells (dimV xs) 23)) 23 (dimV ys)
   have bn := below_new (w.alloc (.cells (dimV xs) 23)) (.cells (dimV ys) 23)
   replace h_rxs := h_rxs.below bn
   replace bw := below_two bw bn
   clear bn
   have h_rz := rowA_new ((w.alloc (.cells (dimV xs) 23)).alloc (.cells (dimV ys) 23)) 29 #[.int .i64 0, .int .i64 0, .int .i64 0, .int .i64 0, .int .i64 0, .int .i64 0, .int .i64 0, .int .i64 0]
   have bn := below_new ((w.alloc (.cells (dimV xs) 23)).alloc (.cells (dimV ys) 23)) (.cells #[.int .i64 0, .int .i64 0, .int .i64 0, .int .i64 0, .int .i64 0, .int .i64 0, .int .i64 0, .int .i64 0] 29)
   replace h_rxs := h_rxs.below bn
   replace h_rys := h_rys.below bn
   replace bw := below_two bw bn
   clear bn
   simp only [World.size_alloc] at h_rys h_rz
   go_enter Tryd.func10, Tryd.ntmps10
   have HI_xs := Lib.hid h_rxs.inV
   go_wp2_with (refine wpList_loadV (by rfl) 23 _ (by rfl) _ _ (by rfl) _ (by assumption) (by assumption) ?_)
   clear HI_xs
   generalize ((w.alloc (.cells (dimV xs) 23)).alloc (.cells (dimV ys) 23)).alloc (.cells #[.int .i64 0, .int .i64 0, .int .i64 0, .int .i64 0, .int .i64 0, .int .i64 0, .int .i64 0, .int .i64 0] 29) = w1 at *
   obtain ⟨q_z, eg⟩ : ∃ g, g = w.heap.size + 1 + 1 := ⟨_, rfl⟩
   have hqz : Hid (w.heap.size ≤ q_z) := by show _ ≤ _; omega
   rw [← eg] at h_rz ⊢
   have ez := eg
   clear eg
   obtain ⟨q_ys, eg⟩ : ∃ g, g = w.heap.size + 1 := ⟨_, rfl⟩
   have hqys : Hid (w.heap.size ≤ q_ys ∧ q_ys ≠ q_z) := by constructor <;> omega
   rw [← eg] at h_rys ⊢
   have e_ys := eg
   clear eg
   obtain ⟨q_xs, eg⟩ : ∃ g, g = w.heap.size := ⟨_, rfl⟩
   have hqxs : Hid (w.heap.size ≤ q_xs ∧ q_xs ≠ q_z) := by constructor <;> omega
   rw [← eg] at h_rxs ⊢
   have e_xs := eg
   clear eg
   have hne_xs_ys : Hid (q_xs ≠ q_ys) := by show _ ≠ _; omega
   clear ez e_xs e_ys
   refine (refDGood_c HX_xs.out false Hga.out).mono ?_
   rintro e w2 ⟨rfl, bn⟩
   replace h_rxs := h_rxs.below bn
   replace h_rys := h_rys.below bn
   replace h_rz := h_rz.below bn
   replace bw := below_two bw bn
   clear bn
   obtain ⟨rfl, rfl⟩ : dim0 = R ∧ 1 = E := by simpa using hR
   have HL : Hid (dim0.length = 7) := rfl
   have HU := Lib.hid (fits8 (e := 1) HL.out)
   have HZr := Lib.hid h_rz
   have HF := Lib.hid (h_rz.fill (V' := gotV dim0 1))
   have HB := Lib.hid (below_fillRow bw hqz.out (gotV dim0 1))
   go_wp2_with (refine wpList_storeV (by rfl) 29 _ _ (by rfl) _ (by rfl) _ (by rfl) _ _ (by assumption) (by assumption) ?_)
   refine bodyPost_ret (results_cell_row rfl _ _ _ 29 (gotV dim0 1) (0, 0) _ rfl HF.out Tryd.underlying29 rfl (got_info HL.out)) rfl ?_
   exact ⟨rfl, HB.out⟩
def mulTo (xs : List Int) (m : Int) (i : Nat) : List Int := (xs.take i).map (fun x => x * m) ++ xs.drop i
theorem mulTo_zero {m : Int} : mulTo xs m 0 = xs := by simp [mulTo]
theorem mulTo_all {m : Int} (h : xs.length = 7) : mulTo xs m 7 = xs.map fun x => x * m := by unfold mulTo; rw [← h, List.take_length, List.drop_length, List.append_nil]
theorem len_mulTo {m : Int} {i : Nat} : (mulTo xs m i).length = xs.length := by unfold mulTo; simp; omega
theorem mulTo_at {m : Int} {i : Nat} (h : i < xs.length) : (mulTo xs m i).getD i 0 = xs.getD i 0 := by
 have e : ((xs.take i).map fun x => x * m).length = i := by simp; omega
 unfold mulTo
 rw [List.getD_eq_getElem?_getD, List.getElem?_append_right (by omega), e, Nat.sub_self, List.getElem?_drop, Nat.add_zero, List.getD_eq_getElem?_getD]
theorem mulTo_step {m : Int} {i : Nat} (h : i < xs.length) : (mulTo xs m i).set i (xs.getD i 0 * m) = mulTo xs m (i + 1) := by
 have e : xs.getD i 0 = xs[i] := by simp [List.getD_eq_getElem?_getD, h]
 unfold mulTo
 rw [e, List.take_succ_eq_append_getElem h, List.map_append, List.set_append_right _ _ (by simp; omega), List.append_assoc]
 congr 1
 rw [List.length_map, List.length_take, Nat.min_eq_left (by omega), Nat.sub_self, List.drop_eq_getElem_cons h]
 rfl
set_option maxHeartbeats 4000000 in
set_option maxRecDepth 100000 in
theorem refDPow_c (hx_xs : xs.length = 7) (n : Int) (n0 : -9223372036854775808 ≤ n) (n9 : n ≤ 9223372036854775807) (R : List Int) (E : Int) (hR : powD xs n = (R, E)) :
 Calls Tryd.prog 11 #[.agg (dimV xs), .int .i64 n] w fun e w' => e = .returned (.agg (gotV R E)) ∧ Below w.heap.size w w' := by
 unfold powD at hR
 have HX_xs := Lib.hid hx_xs
 have HM_xs := Lib.hid (many7 hx_xs)
 clear hx_xs
 by_cases ga : goodD xs = true
 · rw [if_pos ga] at hR
   rw [← pow_mayD ga] at hR
   have Hga := Lib.hid ga
   have HR := Lib.hid hR
   clear ga hR
   obtain ⟨m, hm⟩ : ∃ m, clampE 201 n = m := ⟨_, rfl⟩
   have hmb : -201 ≤ m ∧ m ≤ 201 := by rw [← hm]; constructor <;> (unfold clampE; omega)
   have hml : n ≤ -201 → m = -201 := fun h => by rw [← hm]; unfold clampE; omega
   have hmg : 201 < n → m = 201 := fun h => by rw [← hm]; unfold clampE; omega
   have hme : -201 ≤ n → n ≤ 201 → m = n := fun h k => by rw [← hm]; unfold clampE; omega
   rw [hm] at HR
   have Hmb := Lib.hid hmb
   have Hml := Lib.hid hml
   have Hmg := Lib.hid hmg
   have Hme := Lib.hid hme
   clear hm hmb hml hmg hme
   have bw := bel_refl w
   have h_rxs := rowA_new w 23 (dimV xs)
   have bn := below_new w (.cells (dimV xs) 23)
   replace bw := below_two bw bn
   clear bn
   have h_rz := rowA_new (w.alloc (.cells (dimV xs) 23)) 29 #[.int .i64 0, .int .i64 0, .int .i64 0, .int .i64 0, .int .i64 0, .int .i64 0, .int .i64 0, .int .i64 0]
   have bn := below_new (w.alloc (.cells (dimV xs) 23)) (.cells #[.int .i64 0, .int .i64 0, .int .i64 0, .int .i64 0, .int .i64 0, .int .i64 0, .int .i64 0, .int .i64 0] 29)
   replace h_rxs := h_rxs.below bn
   replace bw := below_two bw bn
   clear bn
   simp only [World.size_alloc] at h_rz
   go_enter Tryd.func11, Tryd.ntmps11
   have HI_xs := Lib.hid h_rxs.inV
   go_wp2_with (refine wpList_loadV (by rfl) 23 _ (by rfl) _ _ (by rfl) _ (by assumption) (by assumption) ?_)
   clear HI_xs
   generalize (w.alloc (.cells (dimV xs) 23)).alloc (.cells #[.int .i64 0, .int .i64 0, .int .i64 0, .int .i64 0, .int .i64 0, .int .i64 0, .int .i64 0, .int .i64 0] 29) = w1 at *
   obtain ⟨q_z, eg⟩ : ∃ g, g = w.heap.size + 1 := ⟨_, rfl⟩
   have hqz : Hid (w.heap.size ≤ q_z) := by show _ ≤ _; omega
   rw [← eg] at h_rz ⊢
   have ez := eg
   clear eg
   obtain ⟨q_xs, eg⟩ : ∃ g, g = w.heap.size := ⟨_, rfl⟩
   have hqxs : Hid (w.heap.size ≤ q_xs ∧ q_xs ≠ q_z) := by constructor <;> omega
   rw [← eg] at h_rxs ⊢
   have e_xs := eg
   clear eg
   clear ez e_xs
   refine (refDGood_c HX_xs.out true Hga.out).mono ?_
   rintro e w2 ⟨rfl, bn⟩
   replace h_rxs := h_rxs.below bn
   replace h_rz := h_rz.below bn
   replace bw := below_two bw bn
   clear bn
   go_wp2_with fail
   go_loopw [5] (fun iv wr => ∃ i : Nat, i ≤ 7 ∧ iv = .int .i64 (i : Int) ∧ Hid (RowA wr q_xs 23 (dimV (mulTo xs m i))) ∧ Hid (RowA wr q_z 29 #[.int .i64 0, .int .i64 0, .int .i64 0, .int .i64 0, .int .i64 0, .int .i64 0, .int .i64 0, .int .i64 0]) ∧ Hid (Below w.heap.size w wr)) (fun iv _ => 7 - (intOf iv).toNat)
   · exact ⟨0, by decide, rfl, by rw [mulTo_zero]; exact h_rxs, h_rz, bw⟩
   · obtain ⟨i, hi, rfl, hA, hB, hb⟩ := hrel
     clear h_rxs h_rz bw
     by_cases h7 : i < 7
     · have hr2 := good_at Hga.out (i := i) (by rw [HX_xs.out]; exact h7)
       obtain ⟨p, hp⟩ : ∃ p, xs.getD i 0 * m = p := ⟨_, rfl⟩
       have hpb := times_bound Hmb.out hr2 ((Int.mul_comm _ _).trans hp)
       have hwp : wrap64 (xs.getD i 0 * m) = p := by rw [hp]; exact IntWalk.wrap64_in p ⟨by omega, by omega⟩
       have HS := Lib.hid (hA.out.setInt i p)
       rw [← hp, mulTo_step (by rw [HX_xs.out]; exact h7), hp] at HS
       have c0 := hA.out.int (i := i) (by rw [len_mulTo, HX_xs.out]; omega)
       rw [mulTo_at (by rw [HX_xs.out]; exact h7)] at c0
       have f0 := hA.out.free i
       have HF := Lib.hid (hB.out.far hqxs.out.2 i (.int .i64 p))
       have HB := Lib.hid (hb.out.setCell (p := ⟨q_xs, i, none⟩) hqxs.out.1 (.int .i64 p))
       generalize xs.getD i 0 = x at *
       clear hA hB hb hp hr2 hpb
       by_cases n1 : n ≤ -201
       · have hm := Hml.out n1
         rw [hm] at hwp
         have hmm : max (-201 : Int) (min n 201) = -201 := by omega
         clear Hmb Hml Hmg Hme HR
         go_wp2
         exact ⟨⟨i + 1, by omega, by simp, HS, HF, HB⟩, by simp [intOf]; omega⟩
       · by_cases n2 : 201 < n
         · have hm := Hmg.out n2
           rw [hm] at hwp
           have hmm : max (-201 : Int) (min n 201) = 201 := by omega
           clear Hmb Hml Hmg Hme HR
           go_wp2
           exact ⟨⟨i + 1, by omega, by simp, HS, HF, HB⟩, by simp [intOf]; omega⟩
         · have hm := Hme.out (by omega) (by omega)
           rw [hm] at hwp
           have hmm : max (-201 : Int) (min n 201) = n := by omega
           clear Hmb Hml Hmg Hme HR
           go_wp2
           exact ⟨⟨i + 1, by omega, by simp, HS, HF, HB⟩, by simp [intOf]; omega⟩
     · obtain rfl : i = 7 := by omega
       rw [mulTo_all HX_xs.out] at hA
       have h_rxs := hA.out
       have h_rz := hB.out
       have bw := hb.out
       clear hA hB hb h7
       have HL : Hid ((xs.map fun x => x * m).length = 7) := by show _ = _; rw [List.length_map]; exact HX_xs.out
       have HM := Lib.hid (many7 HL.out)
       have HI_xs := Lib.hid h_rxs.inV
       go_wp2_with (refine wpList_loadV (by rfl) 23 _ (by rfl) _ _ (by rfl) _ (by assumption) (by assumption) ?_)
       clear HI_xs
       refine (refDMay_c HL.out R E HR.out).mono ?_
       rintro e w41 ⟨rfl, bn⟩
       replace h_rz := h_rz.below bn
       replace bw := below_two bw bn
       clear bn
       have HL : Hid (R.length = 7) := mayD_len HR.out HL.out
       have HU := Lib.hid (fits8 (e := E) HL.out)
       have HZr := Lib.hid h_rz
       have HF := Lib.hid (h_rz.fill (V' := gotV R E))
       have HB := Lib.hid (below_fillRow bw hqz.out (gotV R E))
       go_wp2_with (refine wpList_storeV (by rfl) 29 _ _ (by rfl) _ (by rfl) _ (by rfl) _ _ (by assumption) (by assumption) ?_)
       refine bodyPost_ret (results_cell_row rfl _ _ _ 29 (gotV R E) (0, 0) _ rfl HF.out Tryd.underlying29 rfl (got_info HL.out)) rfl ?_
       exact ⟨rfl, HB.out⟩
 · rw [if_neg ga] at hR
   have Hga : Hid (goodD xs = false) := by show _ = _; simpa using ga
   clear ga
   have bw := bel_refl w
   have h_rxs := rowA_new w 23 (dimV xs)
   have bn := below_new w (.cells (dimV xs) 23)
   replace bw := below_two bw bn
   clear bn
   have h_rz := rowA_new (w.alloc (.cells (dimV xs) 23)) 29 #[.int .i64 0, .int .i64 0, .int .i64 0, .int .i64 0, .int .i64 0, .int .i64 0, .int .i64 0, .int .i64 0]
   have bn := below_new (w.alloc (.cells (dimV xs) 23)) (.cells #[.int .i64 0, .int .i64 0, .int .i64 0, .int .i64 0, .int .i64 0, .int .i64 0, .int .i64 0, .int .i64 0] 29)
   replace h_rxs := h_rxs.below bn
   replace bw := below_two bw bn
   clear bn
   simp only [World.size_alloc] at h_rz
   go_enter Tryd.func11, Tryd.ntmps11
   have HI_xs := Lib.hid h_rxs.inV
   go_wp2_with (refine wpList_loadV (by rfl) 23 _ (by rfl) _ _ (by rfl) _ (by assumption) (by assumption) ?_)
   clear HI_xs
   generalize (w.alloc (.cells (dimV xs) 23)).alloc (.cells #[.int .i64 0, .int .i64 0, .int .i64 0, .int .i64 0, .int .i64 0, .int .i64 0, .int .i64 0, .int .i64 0] 29) = w1 at *
   obtain ⟨q_z, eg⟩ : ∃ g, g = w.heap.size + 1 := ⟨_, rfl⟩
   have hqz : Hid (w.heap.size ≤ q_z) := by show _ ≤ _; omega
   rw [← eg] at h_rz ⊢
   have ez := eg
   clear eg
   obtain ⟨q_xs, eg⟩ : ∃ g, g = w.heap.size := ⟨_, rfl⟩
   have hqxs : Hid (w.heap.size ≤ q_xs ∧ q_xs ≠ q_z) := by constructor <;> omega
   rw [← eg] at h_rxs ⊢
   have e_xs := eg
   clear eg
   clear ez e_xs
   refine (refDGood_c HX_xs.out false Hga.out).mono ?_
   rintro e w2 ⟨rfl, bn⟩
   replace h_rxs := h_rxs.below bn
   replace h_rz := h_rz.below bn
   replace bw := below_two bw bn
   clear bn
   obtain ⟨rfl, rfl⟩ : dim0 = R ∧ 1 = E := by simpa using hR
   have HL : Hid (dim0.length = 7) := rfl
   have HU := Lib.hid (fits8 (e := 1) HL.out)
   have HZr := Lib.hid h_rz
   have HF := Lib.hid (h_rz.fill (V' := gotV dim0 1))
   have HB := Lib.hid (below_fillRow bw hqz.out (gotV dim0 1))
   go_wp2_with (refine wpList_storeV (by rfl) 29 _ _ (by rfl) _ (by rfl) _ (by rfl) _ _ (by assumption) (by assumption) ?_)
   refine bodyPost_ret (results_cell_row rfl _ _ _ 29 (gotV dim0 1) (0, 0) _ rfl HF.out Tryd.underlying29 rfl (got_info HL.out)) rfl ?_
   exact ⟨rfl, HB.out⟩
end
end Go.Proofs.YtbljphnfijiciaaDoor

/- What package whole answers, as contracts over memory: whole numbers in the shortest limbs, 0 not below 0. Conditions: sizes of at most so many limbs; the table of powers of ten where texts are made or read. -/
namespace Go.Proofs.YtbljphnfijiciaaDoor
open Go.RowKit Limb
set_option linter.unusedVariables false
theorem ZZ.zof {w : World} {s : Bool} {A : Option Addr} {n c : Nat} {xs : List Nat} {x : Int} {L : Nat} (h : ZZ w s A n c xs x L) : zOf s x.natAbs = x := h.sgn.symm
theorem conv_u64 {v : Int} (h : -9223372036854775808 ≤ v) (h1 : v ≤ 9223372036854775807) : IntKind.u64.wrap v = if v < 0 then v + 18446744073709551616 else v := by
 rw [IntKind.wrap_u64]; split <;> omega
end Go.Proofs.YtbljphnfijiciaaDoor

/- What the reference of layer 6 answers (Make, Trim, Neg, Text, Of), as contracts over memory. Conditions: sizes of at most so many limbs. -/
namespace Go.Proofs.YtbljphnfijiciaaDoor
open Go.RowKit Limb
set_option linter.unusedVariables false
section
variable {w : World} {s s' : Bool} {A A' : Option Addr} {n c n' c' : Nat} {xs ys : List Nat} {x y : Int} {L L' : Nat}
set_option maxHeartbeats 4000000 in
set_option maxRecDepth 100000 in
theorem refMake_c {a : Nat} (hx : NN w A n c xs a L) (h1 : L ≤ 1000000000) (z : Int) (hz : zOf s a = z) :
 Calls Tryd.prog 31 #[.bool s, .slice A n c] w fun e w' => ∃ A2 n2 c2, e = .returned (.agg #[.bool (sg z), .slice A2 n2 c2]) ∧ ZZ w' (sg z) A2 n2 c2 (limbs z.natAbs) z L ∧ Below w.heap.size w w' := by
 have HW := Lib.hid (below_new w zbox)
 have HZ : RowKit.Hid (ZB (w.alloc zbox) w.heap.size) := row2_new w _ _ _
 have HN := Lib.hid (hx.below HW.out)
 clear hx
 go_enter Tryd.func31, Tryd.ntmps31
 go_wp2_with fail
 refine (refTrim_c HN.out h1).mono ?_
 rintro e w2 ⟨A2, n2, c2, rfl, h2, bn⟩
 have BN := Lib.hid bn
 have hn : n2 = 0 ↔ a = 0 := by rw [← h2.isN.len]; exact len_limbs_zero
 have HZ2 : RowKit.Hid (ZZ w2 (sg z) A2 n2 c2 (limbs z.natAbs) z L) := ZZ.mk' (by rw [← hz, zOf_abs]; exact h2)
 obtain ⟨e0, e1, f0, f1⟩ := (HZ.out.below BN.out).cells
 clear h2 bn
 by_cases hb : s = true
 · by_cases h0 : a = 0
   · have es : sg z = false := by rw [← hz, h0]; cases s <;> rfl
     subst hb
     have e2 : n2 = 0 := hn.2 h0
     subst e2
     have Hes := Lib.hid es
     rw [es] at HZ2
     clear es hn hz h0
     have HF := Lib.hid ((HZ.out.below BN.out).fill (.bool false) (.slice A2 0 c2))
     have HP := Lib.hid (HZ2.out.put (HZ.out.below BN.out) (.bool false) (.slice A2 0 c2))
     have HB := Lib.hid (below_fill (g := w.heap.size) (below_two HW.out BN.out) (Nat.le_refl _) (.bool false) (.slice A2 0 c2))
     go_wp2
     refine bodyPost_ret (results_cell_row rfl _ _ w.heap.size 52 #[.bool false, .slice A2 0 c2] (0, 0) _ rfl HF.out Tryd.underlying52 rfl int_size) rfl ?_
     exact ⟨A2, 0, c2, by rw [Hes.out], by rw [Hes.out]; exact HP.out, HB.out⟩
   · have es : sg z = true := by
      rw [← hz, hb]; apply sg_neg
      unfold zOf; rw [if_pos rfl]; omega
     have Hp : RowKit.Hid (decide (0 < n2) = true) := by
      have : n2 ≠ 0 := fun h => h0 (hn.1 h)
      show _ = _
      rw [decide_eq_true_eq]; omega
     subst hb
     have Hes := Lib.hid es
     rw [es] at HZ2
     clear es hn hz h0
     have HF := Lib.hid ((HZ.out.below BN.out).fill (.bool (decide (0 < n2))) (.slice A2 n2 c2))
     have HP := Lib.hid (HZ2.out.put (HZ.out.below BN.out) (.bool (decide (0 < n2))) (.slice A2 n2 c2))
     have HB := Lib.hid (below_fill (g := w.heap.size) (below_two HW.out BN.out) (Nat.le_refl _) (.bool (decide (0 < n2))) (.slice A2 n2 c2))
     go_wp2
     refine bodyPost_ret (results_cell_row rfl _ _ w.heap.size 52 #[.bool (decide (0 < n2)), .slice A2 n2 c2] (0, 0) _ rfl HF.out Tryd.underlying52 rfl int_size) rfl ?_
     exact ⟨A2, n2, c2, by rw [Hes.out, Hp.out], by rw [Hes.out]; exact HP.out, HB.out⟩
 · have hb2 : s = false := by simpa using hb
   have es : sg z = false := by rw [← hz, hb2]; apply sg_pos; unfold zOf; simp
   subst hb2
   have Hes := Lib.hid es
   rw [es] at HZ2
   clear es hn hz hb
   have HF := Lib.hid ((HZ.out.below BN.out).fill (.bool false) (.slice A2 n2 c2))
   have HP := Lib.hid (HZ2.out.put (HZ.out.below BN.out) (.bool false) (.slice A2 n2 c2))
   have HB := Lib.hid (below_fill (g := w.heap.size) (below_two HW.out BN.out) (Nat.le_refl _) (.bool false) (.slice A2 n2 c2))
   go_wp2
   refine bodyPost_ret (results_cell_row rfl _ _ w.heap.size 52 #[.bool false, .slice A2 n2 c2] (0, 0) _ rfl HF.out Tryd.underlying52 rfl int_size) rfl ?_
   exact ⟨A2, n2, c2, by rw [Hes.out], by rw [Hes.out]; exact HP.out, HB.out⟩
set_option maxHeartbeats 4000000 in
set_option maxRecDepth 100000 in
theorem refITrim_c (hx : ZZ w s A n c xs x L) (h1 : L ≤ 100000) :
 Calls Tryd.prog 29 #[.agg #[.bool s, .slice A n c]] w fun e w' => ∃ A2 n2 c2, e = .returned (.agg #[.bool (sg x), .slice A2 n2 c2]) ∧ ZZ w' (sg x) A2 n2 c2 (limbs x.natAbs) x L ∧ Below w.heap.size w w' := by
 have HS := Lib.hid hx.zof
 have b0 := below_new w (.cells #[Value.bool s, Value.slice A n c] 52)
 have bz := below_new (w.alloc (.cells #[Value.bool s, Value.slice A n c] 52)) zbox
 have HW := Lib.hid (below_two b0 bz)
 have HN := Lib.hid (hx.nn.below HW.out)
 have r0 := (row2_new w 52 (.bool s) (.slice A n c)).below bz
 have rz : ZB ((w.alloc (.cells #[Value.bool s, Value.slice A n c] 52)).alloc zbox) (w.alloc (.cells #[Value.bool s, Value.slice A n c] 52)).heap.size := row2_new (w.alloc (.cells #[Value.bool s, Value.slice A n c] 52)) _ _ _
 simp only [World.size_alloc] at rz
 clear b0 bz hx
 go_enter Tryd.func29, Tryd.ntmps29
 go_wp2_with fail
 generalize (w.alloc (.cells #[Value.bool s, Value.slice A n c] 52)).alloc zbox = w1 at *
 have HR0 := Lib.hid r0
 have c00 := r0.c0
 have c01 := r0.c1
 have HZ := Lib.hid rz
 clear r0 rz
 refine (refMake_c HN.out (by omega) x (by first | exact HS.out | simpa using HS.out)).mono ?_
 rintro e w2 ⟨A2, n2, c2, rfl, h4, bm⟩
 have BN4 := Lib.hid bm
 obtain ⟨e0, e1, f0, f1⟩ := (HZ.out.below BN4.out).cells
 have HF := Lib.hid ((HZ.out.below BN4.out).fill (.bool (sg x)) (.slice A2 n2 c2))
 have HP := Lib.hid (h4.put (HZ.out.below BN4.out) (.bool (sg x)) (.slice A2 n2 c2))
 have HB := Lib.hid (below_fill (g := w.heap.size + 1) (below_two HW.out BN4.out) (by omega) (.bool (sg x)) (.slice A2 n2 c2))
 clear bm h4 c00 c01
 go_wp2
 refine bodyPost_ret (results_cell_row rfl _ _ (w.heap.size + 1) 52 #[.bool (sg x), .slice A2 n2 c2] (0, 0) _ rfl HF.out Tryd.underlying52 rfl int_size) rfl ?_
 exact ⟨A2, n2, c2, rfl, HP.out, HB.out⟩
set_option maxHeartbeats 4000000 in
set_option maxRecDepth 100000 in
theorem refIText_c (hx : ZZ w s A n c xs x L) (h1 : L ≤ 10000) (S : ByteArray) (hS : strOf (zT x) = S) :
 Calls Tryd.prog 23 #[.agg #[.bool s, .slice A n c]] w fun e w' => e = .returned (.string S) ∧ Below w.heap.size w w' := by
 have b0 := below_new w (.cells #[Value.bool s, Value.slice A n c] 52)
 have HW := Lib.hid b0
 have HN := Lib.hid (hx.below b0)
 have r0 := row2_new w 52 (.bool s) (.slice A n c)
 have c00 := r0.c0
 have c01 := r0.c1
 clear b0 hx
 by_cases hx0 : x < 0
 · have hx2 : sg x = true := sg_neg hx0
   have HX2 := Lib.hid hx2
   clear hx2
   rw [zT_neg hx0] at hS
   obtain ⟨D, hD⟩ : ∃ D, strOf (decT x.natAbs) = D := ⟨_, rfl⟩
   have ed : (⟨#[45]⟩ : ByteArray) ++ D = S := by rw [← hD, minus_text]; exact hS
   have hDl : D.size ≤ 100001 := by
    have := decT_len_limbs (lt_pow HN.out.nn)
    rw [← hD, size_strOf]; omega
   have HD := Lib.hid hD
   clear hD hS
   clear hx0
   go_enter Tryd.func23, Tryd.ntmps23
   go_wp2_with fail
   refine (refITrim_c HN.out (by omega)).mono ?_
   rintro e w2 ⟨A2, n2, c2, rfl, _, bn⟩
   rw [HX2.out]
   have hfld : ∀ W, (Instr.field 52 (.agg #[.bool true, .slice A2 n2 c2]) 0).run Tryd.prog W = .ok (.bool true) W := fun _ => by kernel_rfl
   replace HN := Lib.hid (HN.out.below bn)
   replace HW := Lib.hid (below_two HW.out bn)
   replace r0 := r0.below bn
   clear c00 c01 bn
   have c00 := r0.c0
   have c01 := r0.c1
   clear r0
   go_wp2_with fail
   refine (refText_c HN.out.nn h1).mono ?_
   rintro e w3 ⟨rfl, bn⟩
   rw [HD.out]
   replace HW := Lib.hid (below_two HW.out bn)
   clear c00 c01 bn
   go_wp2
   go_ret
   exact ⟨rfl, HW.out⟩
 · have hx2 : sg x = false := sg_pos (by omega)
   have HX2 := Lib.hid hx2
   clear hx2
   rw [zT_pos (by omega)] at hS
   have HD := Lib.hid hS
   clear hS
   clear hx0
   go_enter Tryd.func23, Tryd.ntmps23
   go_wp2_with fail
   refine (refITrim_c HN.out (by omega)).mono ?_
   rintro e w2 ⟨A2, n2, c2, rfl, _, bn⟩
   rw [HX2.out]
   have hfld : ∀ W, (Instr.field 52 (.agg #[.bool false, .slice A2 n2 c2]) 0).run Tryd.prog W = .ok (.bool false) W := fun _ => by kernel_rfl
   replace HN := Lib.hid (HN.out.below bn)
   replace HW := Lib.hid (below_two HW.out bn)
   replace r0 := r0.below bn
   clear c00 c01 bn
   have c00 := r0.c0
   have c01 := r0.c1
   clear r0
   go_wp2_with fail
   refine (refText_c HN.out.nn h1).mono ?_
   rintro e w3 ⟨rfl, bn⟩
   rw [HD.out]
   replace HW := Lib.hid (below_two HW.out bn)
   clear c00 c01 bn
   go_wp2
   go_ret
   exact ⟨rfl, HW.out⟩
end
set_option maxHeartbeats 4000000 in
set_option maxRecDepth 100000 in
theorem refIOf_c (v : Int) (h0 : -9223372036854775808 ≤ v) (h1 : v ≤ 9223372036854775807) (w : World) :
 Calls Tryd.prog 24 #[.int .i64 v] w fun e w' => ∃ A2 n2 c2, e = .returned (.agg #[.bool (sg v), .slice A2 n2 c2]) ∧ ZZ w' (sg v) A2 n2 c2 (limbs v.natAbs) v 2 ∧ Below w.heap.size w w' := by
 have HW := Lib.hid (below_new w zbox)
 have HZ : RowKit.Hid (ZB (w.alloc zbox) w.heap.size) := row2_new w _ _ _
 by_cases hv0 : v < 0
 · obtain ⟨u, hu⟩ : ∃ u, u = v.natAbs := ⟨_, rfl⟩
   have hlt : u < 18446744073709551616 := by omega
   obtain ⟨q, hq⟩ : ∃ q : Nat, -(v + 1) = (q : Int) := ⟨(-(v + 1)).toNat, by omega⟩
   have hq2 : q < 9223372036854775808 := by omega
   have e0 : IntKind.i64.wrap (v + 1) = v + 1 := by rw [IntKind.wrap_i64]; omega
   have e0b : wrap64 (v + 1) = v + 1 := by unfold wrap64; omega
   have e1 : IntKind.i64.wrap (-(v + 1)) = (q : Int) := by rw [hq, IntKind.wrap_i64]; omega
   have e1b : wrap64 (-(v + 1)) = (q : Int) := by rw [hq]; unfold wrap64; omega
   have e2 : IntKind.u64.wrap (q : Int) = (q : Int) := by rw [IntKind.wrap_u64]; omega
   have e3 : IntKind.u64.wrap ((q : Int) + 1) = (u : Int) := by rw [IntKind.wrap_u64]; omega
   have eu : q + 1 = u := by omega
   have HS : RowKit.Hid (zOf true u = v) := by
    show _ = _
    rw [hu]; unfold zOf; simp; omega
   have HC := Lib.hid (refOf_c u _ rfl hlt (w.alloc zbox))
   clear hu h0 h1 hq hq2 eu
   go_enter Tryd.func24, Tryd.ntmps24
   go_wp2_with fail
   refine HC.out.mono ?_
   rintro e w2 ⟨A2, n2, c2, rfl, h2, bn⟩
   have BN2 := Lib.hid bn
   clear bn
   go_wp2_with fail
   refine (refMake_c h2 (by decide) v (by first | exact HS.out | simpa using HS.out)).mono ?_
   rintro e w4 ⟨A3, n3, c3, rfl, h4, bm⟩
   have BN4 := Lib.hid (below_two BN2.out bm)
   obtain ⟨e0, e1, f0, f1⟩ := (HZ.out.below BN4.out).cells
   have HF := Lib.hid ((HZ.out.below BN4.out).fill (.bool (sg v)) (.slice A3 n3 c3))
   have HP := Lib.hid (h4.put (HZ.out.below BN4.out) (.bool (sg v)) (.slice A3 n3 c3))
   have HB := Lib.hid (below_fill (g := w.heap.size) (below_two HW.out BN4.out) (Nat.le_refl _) (.bool (sg v)) (.slice A3 n3 c3))
   clear bm h2 h4
   go_wp2
   refine bodyPost_ret (results_cell_row rfl _ _ w.heap.size 52 #[.bool (sg v), .slice A3 n3 c3] (0, 0) _ rfl HF.out Tryd.underlying52 rfl int_size) rfl ?_
   exact ⟨A3, n3, c3, rfl, HP.out, HB.out⟩
 · obtain ⟨u, hu⟩ : ∃ u, u = v.natAbs := ⟨_, rfl⟩
   have hlt : u < 18446744073709551616 := by omega
   have ec : IntKind.u64.wrap v = (u : Int) := by rw [conv_u64 h0 h1, if_neg hv0]; omega
   have hv1 : 0 ≤ v := by omega
   have HS : RowKit.Hid (zOf false u = v) := by
    show _ = _
    rw [hu]; unfold zOf; simp; omega
   have HC := Lib.hid (refOf_c u _ rfl hlt (w.alloc zbox))
   clear hu h0 h1 hv0
   go_enter Tryd.func24, Tryd.ntmps24
   go_wp2_with fail
   refine HC.out.mono ?_
   rintro e w2 ⟨A2, n2, c2, rfl, h2, bn⟩
   have BN2 := Lib.hid bn
   clear bn
   go_wp2_with fail
   refine (refMake_c h2 (by decide) v (by first | exact HS.out | simpa using HS.out)).mono ?_
   rintro e w4 ⟨A3, n3, c3, rfl, h4, bm⟩
   have BN4 := Lib.hid (below_two BN2.out bm)
   obtain ⟨e0, e1, f0, f1⟩ := (HZ.out.below BN4.out).cells
   have HF := Lib.hid ((HZ.out.below BN4.out).fill (.bool (sg v)) (.slice A3 n3 c3))
   have HP := Lib.hid (h4.put (HZ.out.below BN4.out) (.bool (sg v)) (.slice A3 n3 c3))
   have HB := Lib.hid (below_fill (g := w.heap.size) (below_two HW.out BN4.out) (Nat.le_refl _) (.bool (sg v)) (.slice A3 n3 c3))
   clear bm h2 h4
   go_wp2
   refine bodyPost_ret (results_cell_row rfl _ _ w.heap.size 52 #[.bool (sg v), .slice A3 n3 c3] (0, 0) _ rfl HF.out Tryd.underlying52 rfl int_size) rfl ?_
   exact ⟨A3, n3, c3, rfl, HP.out, HB.out⟩
end Go.Proofs.YtbljphnfijiciaaDoor

/- What the reference of layer 11 answers (Text), as a contract over memory. Condition: seven exponents. -/
namespace Go.Proofs.YtbljphnfijiciaaDoor
open Go.RowKit Limb
set_option linter.unusedVariables false
theorem dimGo_step : ∀ {ns : List (List Nat)} {es : List Int} {i : Nat} {s : List Nat}, i < ns.length → i < es.length →
 dimGo (ns.take (i + 1)) (es.take (i + 1)) s = (if es.getD i 0 = 0 then dimGo (ns.take i) (es.take i) s else if dimGo (ns.take i) (es.take i) s = [] then piece (ns.getD i []) (es.getD i 0) else dimGo (ns.take i) (es.take i) s ++ 32 :: piece (ns.getD i []) (es.getD i 0))
 | n :: ns, e :: es, 0, s, _, _ => by
  simp only [List.take_succ_cons, List.take_zero, dimGo, List.getD_cons_zero]
 | n :: ns, e :: es, i + 1, s, h, k => by
  rw [List.take_succ_cons, List.take_succ_cons, List.take_succ_cons, List.take_succ_cons, List.getD_cons_succ, List.getD_cons_succ]
  unfold dimGo
  exact dimGo_step (by simpa using h) (by simpa using k)
theorem dimGo_short {xs : List Int} (hx : xs.length = 7) (h : I64 xs) : ∀ {i : Nat}, i ≤ 7 → (dimGo (dimN.take i) (xs.take i) []).length ≤ 25 * i
 | 0, _ => by simp [dimGo]
 | i + 1, hi => by
  have ih := dimGo_short hx h (i := i) (by omega)
  have hp := piece_short (name_short i) (h.at (i := i) (by omega))
  rw [dimGo_step (by show i < 7; omega) (by omega)]
  split
  · omega
  · split
    · omega
    · rw [List.length_append, List.length_cons]; omega
theorem str_nil {l : List Nat} {S : ByteArray} (h : strOf l = S) (hl : l ≠ []) : (S.toList == []) = false := by
 subst h
 rw [ByteArray.toList_eq, beq_eq_false_iff_ne]
 intro e
 have h2 : (strOf l).data.toList.length = 0 := by rw [e]; rfl
 rw [← Lib.size_eq, size_strOf] at h2
 exact hl (List.eq_nil_of_length_eq_zero h2)
theorem put1 {T nm : List Nat} {S : ByteArray} (h : strOf T = S) : strOf (T ++ 32 :: piece nm 1) = S ++ strOf [32] ++ strOf nm := by
 rw [← h, strOf_append, strOf_append]; unfold piece; simp
theorem put2 {T nm : List Nat} {S I : ByteArray} {e : Int} (h : strOf T = S) (hI : strOf (zT e) = I) (h1 : e ≠ 1) : strOf (T ++ 32 :: piece nm e) = S ++ strOf [32] ++ strOf nm ++ (strOf [94] ++ I) := by
 rw [← h, ← hI, strOf_append, strOf_append, strOf_append, strOf_append]; unfold piece; rw [if_neg h1]; simp
theorem put3 {nm : List Nat} : strOf (piece nm 1) = strOf [] ++ strOf nm := by rw [strOf_append]; unfold piece; simp
theorem put4 {nm : List Nat} {I : ByteArray} {e : Int} (hI : strOf (zT e) = I) (h1 : e ≠ 1) : strOf (piece nm e) = strOf [] ++ strOf nm ++ (strOf [94] ++ I) := by
 rw [← hI, strOf_append, strOf_append, strOf_append]; unfold piece; rw [if_neg h1]; simp
section
variable {w : World} {xs ys : List Int}
set_option maxHeartbeats 4000000 in
set_option maxRecDepth 100000 in
theorem refDText_c (hx : xs.length = 7) (h64 : I64 xs) (S : ByteArray) (hS : strOf (dimT xs) = S) :
 Calls Tryd.prog 15 #[.agg (dimV xs)] w fun e w' => e = .returned (.string S) ∧ Below w.heap.size w w' := by
 have HS := Lib.hid hS
 have H64 := Lib.hid h64
 clear hS h64
 have b0 := below_new w (.cells (dimV xs) 23)
 have h_rx := rowA_new w 23 (dimV xs)
 have HB := Lib.hid b0
 have HX := Lib.hid hx
 clear b0 hx
 go_enter Tryd.func15, Tryd.ntmps15
 go_wp2_with fail
 have hqx : Hid (w.heap.size < (w.alloc (.cells (dimV xs) 23)).heap.size) := by show _ < _; simp
 generalize w.alloc (.cells (dimV xs) 23) = w1 at *
 obtain ⟨q_x, eg⟩ : ∃ g, g = w.heap.size := ⟨_, rfl⟩
 rw [← eg] at h_rx ⊢
 clear eg
 go_loopw [3, 4] (fun sv iv wr => ∃ (i : Nat) (D : ByteArray), i ≤ 7 ∧ sv = .string D ∧ iv = .int .i64 (i : Int) ∧ Hid (strOf (dimGo (dimN.take i) (xs.take i) []) = D) ∧ Hid (RowA wr q_x 23 (dimV xs)) ∧ Hid (Below w.heap.size w wr)) (fun _ iv _ => 7 - (intOf iv).toNat)
 · exact ⟨0, _, by decide, rfl, rfl, rfl, h_rx, HB⟩
 · obtain ⟨i, D, hi, rfl, rfl, hD, hA, hb⟩ := hrel
   have hz : D.size ≤ 25 * i := by rw [← hD.out, size_strOf]; exact dimGo_short HX.out H64.out hi
   clear h_rx HB
   by_cases h7 : i < 7
   · have c0 := hA.out.int (i := i) (by rw [HX.out]; exact h7)
     have hr := H64.out.at (i := i) (by rw [HX.out]; exact h7)
     have hs := dimGo_step (ns := dimN) (es := xs) (i := i) (s := []) (by show i < 7; exact h7) (by rw [HX.out]; exact h7)
     generalize xs.getD i 0 = e at *
     have hzs := zT_short hr
     by_cases e0 : e = 0
     · subst e0
       rw [if_pos rfl] at hs
       have hs2 : Hid (strOf (dimGo (dimN.take (i + 1)) (xs.take (i + 1)) []) = D) := by show _ = _; rw [hs]; exact hD.out
       clear hD hzs hr hs
       go_wp2
       exact ⟨⟨i + 1, D, by omega, rfl, by simp, hs2, hA, hb⟩, by simp [intOf]; omega⟩
     · rw [if_neg e0] at hs
       have z0 : (e == 0) = false := by simpa using e0
       obtain ⟨I, hI⟩ : ∃ I, strOf (zT e) = I := ⟨_, rfl⟩
       have zi : I.size ≤ 20 := by rw [← hI, size_strOf]; exact hzs
       have HI := Lib.hid hI
       have Hr := Lib.hid hr
       clear hI hzs hr e0
       by_cases hT : dimGo (dimN.take i) (xs.take i) [] = []
       · rw [if_pos hT] at hs
         rw [hT] at hD
         have hD0 : (⟨#[]⟩ : ByteArray) = D := hD.out
         subst hD0
         clear hD hT hz
         have hs := Lib.hid hs
         by_cases e1 : e = 1
         · subst e1
           clear HI zi Hr
           rcases (show i = 0 ∨ i = 1 ∨ i = 2 ∨ i = 3 ∨ i = 4 ∨ i = 5 ∨ i = 6 by omega) with rfl | rfl | rfl | rfl | rfl | rfl | rfl
           all_goals go_wp2
           all_goals exact ⟨⟨_ + 1, _, by decide, rfl, rfl, (show strOf _ = _ by rw [hs.out]; exact put3), hA, hb⟩, by decide⟩
         · have z1 : (e == 1) = false := by simpa using e1
           have E1 := Lib.hid e1
           clear e1
           rcases (show i = 0 ∨ i = 1 ∨ i = 2 ∨ i = 3 ∨ i = 4 ∨ i = 5 ∨ i = 6 by omega) with rfl | rfl | rfl | rfl | rfl | rfl | rfl
           all_goals go_wp2_with fail
           all_goals refine (refIOf_c e Hr.out.1 Hr.out.2 _).mono ?_
           all_goals rintro e2 w2 ⟨A, n, c, rfl, hn, bn⟩
           all_goals replace hA := Lib.hid (hA.out.below bn)
           all_goals replace hb := Lib.hid (hb.out.trans (bn.mono hb.out.size))
           all_goals clear bn c0
           all_goals go_wp2_with fail
           all_goals refine (refIText_c hn (by decide) I HI.out).mono ?_
           all_goals rintro e3 w3 ⟨rfl, bn⟩
           all_goals replace hA := Lib.hid (hA.out.below bn)
           all_goals replace hb := Lib.hid (hb.out.trans (bn.mono hb.out.size))
           all_goals clear bn hn
           all_goals go_wp2
           all_goals exact ⟨⟨_ + 1, _, by decide, rfl, rfl, (show strOf _ = _ by rw [hs.out]; exact put4 HI.out E1.out), hA, hb⟩, by decide⟩
       · rw [if_neg hT] at hs
         have zd := str_nil hD.out hT
         clear hT
         have hs := Lib.hid hs
         by_cases e1 : e = 1
         · subst e1
           clear HI zi Hr
           rcases (show i = 0 ∨ i = 1 ∨ i = 2 ∨ i = 3 ∨ i = 4 ∨ i = 5 ∨ i = 6 by omega) with rfl | rfl | rfl | rfl | rfl | rfl | rfl
           all_goals go_wp2
           all_goals exact ⟨⟨_ + 1, _, by decide, rfl, rfl, (show strOf _ = _ by rw [hs.out]; exact put1 hD.out), hA, hb⟩, by decide⟩
         · have z1 : (e == 1) = false := by simpa using e1
           have E1 := Lib.hid e1
           clear e1
           rcases (show i = 0 ∨ i = 1 ∨ i = 2 ∨ i = 3 ∨ i = 4 ∨ i = 5 ∨ i = 6 by omega) with rfl | rfl | rfl | rfl | rfl | rfl | rfl
           all_goals go_wp2_with fail
           all_goals refine (refIOf_c e Hr.out.1 Hr.out.2 _).mono ?_
           all_goals rintro e2 w2 ⟨A, n, c, rfl, hn, bn⟩
           all_goals replace hA := Lib.hid (hA.out.below bn)
           all_goals replace hb := Lib.hid (hb.out.trans (bn.mono hb.out.size))
           all_goals clear bn c0
           all_goals go_wp2_with fail
           all_goals refine (refIText_c hn (by decide) I HI.out).mono ?_
           all_goals rintro e3 w3 ⟨rfl, bn⟩
           all_goals replace hA := Lib.hid (hA.out.below bn)
           all_goals replace hb := Lib.hid (hb.out.trans (bn.mono hb.out.size))
           all_goals clear bn hn
           all_goals go_wp2
           all_goals exact ⟨⟨_ + 1, _, by decide, rfl, rfl, (show strOf _ = _ by rw [hs.out]; exact put2 hD.out HI.out E1.out), hA, hb⟩, by decide⟩
   · obtain rfl : i = 7 := by omega
     have ht : dimGo (dimN.take 7) (xs.take 7) [] = dimGo dimN xs [] := by rw [show dimN.take 7 = dimN from rfl, List.take_of_length_le (by rw [HX.out]; decide)]
     rw [ht] at hD
     have hS := HS.out
     unfold dimT at hS
     by_cases hT : dimGo dimN xs [] = []
     · rw [if_pos hT] at hS
       rw [hT] at hD
       have hD0 : (⟨#[]⟩ : ByteArray) = D := hD.out
       subst hD0
       have hS2 := Lib.hid hS
       clear hD hT hz hA HS hS ht
       go_wp2
       go_ret
       exact ⟨by rw [← hS2.out]; rfl, hb.out⟩
     · rw [if_neg hT, hD.out] at hS
       have zd := str_nil hD.out hT
       have hS2 := Lib.hid hS
       clear hD hT hA HS hS ht
       go_wp2
       go_ret
       exact ⟨by rw [← hS2.out]; rfl, hb.out⟩
end
end Go.Proofs.YtbljphnfijiciaaDoor

/- Of any two dimensions and any number: what package dim tells is what the document tells. Condition: the variables that the row lists read as listed. -/
namespace Go.Proofs.YtbljphnfijiciaaDoor.lawDimTells
open Go.ChangeShapes Go.WideShapes Go.ChangeAt Go.RowKit Limb
set_option linter.unusedVariables false
theorem i64_wf {xs : List Int} (h : ∀ x ∈ xs, (Lit.int .i64 x).wf = true) : I64 xs := fun x hx => by
 have := h x hx
 have e1 : IntKind.i64.min = -9223372036854775808 := rfl
 have e2 : IntKind.i64.max = 9223372036854775807 := rfl
 simp only [Lit.wf, Bool.and_eq_true, decide_eq_true_eq] at this
 omega
theorem got_dim {w : World} {g : Nat} {T : TypeId} {zs : List Int} {e : Int} (h : RowA w g T (gotV zs e)) : InV w g 0 (dimV zs) := h.part fun j v hv => by
 rw [Nat.zero_add]
 unfold dimV gotV ints at *
 rw [List.getElem?_toArray, List.map_append] at *
 have hj : j < (zs.map (Value.int .i64)).length := by
  rcases Nat.lt_or_ge j (zs.map (Value.int .i64)).length with h1 | h1
  · exact h1
  · rw [List.getElem?_eq_none h1] at hv; cases hv
 rw [List.getElem?_append_left hj]
 exact hv
theorem got_err {w : World} {g : Nat} {T : TypeId} {zs : List Int} {e : Int} (hl : zs.length = 7) (h : RowA w g T (gotV zs e)) : w.cell? ⟨g, 7, none⟩ = some (.int .i64 e) := h.cell (by
 unfold gotV ints
 rw [List.getElem?_toArray, List.map_append, List.getElem?_append_right (by rw [List.length_map, hl]; decide), List.length_map, hl]
 rfl)
set_option maxHeartbeats 4000000 in
set_option maxRecDepth 100000 in
theorem walk (xs_a : List Int) (xs_b : List Int) (v_n : Int) (w : World) (l_a : xs_a.length = 7) (f_a : ∀ x ∈ xs_a, (Lit.int .i64 x).wf = true) (l_b : xs_b.length = 7) (f_b : ∀ x ∈ xs_b, (Lit.int .i64 x).wf = true) (f_n : (Lit.int .i64 v_n).wf = true) (HT : DTab w) :
 Calls Tryd.prog 3 #[.agg (dimV xs_a), .agg (dimV xs_b), .int .i64 v_n] w fun e w' => e = .returned (.bool true) ∧ Below w.heap.size w w' := by
 have HL_a := Lib.hid l_a
 have H64_a := Lib.hid (i64_wf f_a)
 have HM_a := Lib.hid (many7 l_a)
 have HU_a := Lib.hid (fits7 l_a)
 clear l_a f_a
 have HL_b := Lib.hid l_b
 have H64_b := Lib.hid (i64_wf f_b)
 have HM_b := Lib.hid (many7 l_b)
 have HU_b := Lib.hid (fits7 l_b)
 clear l_b f_b
 have hv0 : -9223372036854775808 ≤ v_n ∧ v_n ≤ 9223372036854775807 := by
  have e1 : IntKind.i64.min = -9223372036854775808 := rfl
  have e2 : IntKind.i64.max = 9223372036854775807 := rfl
  simp only [Lit.wf, Bool.and_eq_true, decide_eq_true_eq] at f_n
  omega
 have HV0 := Lib.hid hv0
 clear f_n hv0
 obtain ⟨R0, E0, h0⟩ : ∃ r e, mulD xs_a xs_b = (r, e) := ⟨_, _, rfl⟩
 have H0 := Lib.hid h0
 have HL0 := Lib.hid (mulD_len H0.out HL_a.out HL_b.out)
 have HM_R0 := Lib.hid (many7 HL0.out)
 have HU_R0 := Lib.hid (fits7 HL0.out)
 have HG0 := Lib.hid (fits8 (e := E0) HL0.out)
 clear h0
 obtain ⟨R1, E1, h1⟩ : ∃ r e, divD xs_a xs_b = (r, e) := ⟨_, _, rfl⟩
 have H1 := Lib.hid h1
 have HL1 := Lib.hid (divD_len H1.out HL_a.out HL_b.out)
 have HM_R1 := Lib.hid (many7 HL1.out)
 have HU_R1 := Lib.hid (fits7 HL1.out)
 have HG1 := Lib.hid (fits8 (e := E1) HL1.out)
 clear h1
 obtain ⟨R2, E2, h2⟩ : ∃ r e, powD xs_a v_n = (r, e) := ⟨_, _, rfl⟩
 have H2 := Lib.hid h2
 have HL2 := Lib.hid (powD_len H2.out HL_a.out)
 have HM_R2 := Lib.hid (many7 HL2.out)
 have HU_R2 := Lib.hid (fits7 HL2.out)
 have HG2 := Lib.hid (fits8 (e := E2) HL2.out)
 clear h2
 obtain ⟨v, hv⟩ : ∃ v, goodD xs_a = v := ⟨_, rfl⟩
 have HV := Lib.hid hv
 obtain ⟨St, hS⟩ : ∃ S, strOf (dimT xs_a) = S := ⟨_, rfl⟩
 have HSt := Lib.hid hS
 clear hv hS
 have bw := bel_refl w
 have h_ra : RowA (w.alloc (.cells (dimV xs_a) 23)) w.heap.size 23 (dimV xs_a) := rowA_new _ _ _
 have bn := below_new w (.cells (dimV xs_a) 23)
 replace HT := HT.below bn
 replace bw := below_two bw bn
 clear bn
 have h_rb : RowA ((w.alloc (.cells (dimV xs_a) 23)).alloc (.cells (dimV xs_b) 23)) (w.alloc (.cells (dimV xs_a) 23)).heap.size 23 (dimV xs_b) := rowA_new _ _ _
 have bn := below_new (w.alloc (.cells (dimV xs_a) 23)) (.cells (dimV xs_b) 23)
 replace HT := HT.below bn
 replace h_ra := h_ra.below bn
 replace bw := below_two bw bn
 clear bn
 simp only [World.size_alloc] at h_rb
 go_enter Tryd.func3, Tryd.ntmps3
 have HI_a := Lib.hid h_ra.inV
 have HI_b := Lib.hid h_rb.inV
 go_wp2_with (refine wpList_loadV (by rfl) 23 _ (by rfl) _ _ (by rfl) _ (by assumption) (by assumption) ?_)
 clear HI_a HI_b
 generalize (w.alloc (.cells (dimV xs_a) 23)).alloc (.cells (dimV xs_b) 23) = w1 at *
 obtain ⟨q_b, eg⟩ : ∃ g, g = w.heap.size + 1 := ⟨_, rfl⟩
 rw [← eg] at h_rb ⊢
 have e_b := eg
 clear eg
 obtain ⟨q_a, eg⟩ : ∃ g, g = w.heap.size := ⟨_, rfl⟩
 rw [← eg] at h_ra ⊢
 have e_a := eg
 clear eg
 clear e_a e_b
 refine (dMul_c HL_a.out H64_a.out HL_b.out H64_b.out _ _ H0.out).mono ?_
 rintro e w2 ⟨rfl, bn⟩
 replace HT := HT.below bn
 replace h_ra := h_ra.below bn
 replace h_rb := h_rb.below bn
 replace bw := below_two bw bn
 clear bn
 have h_rm := rowA_new w2 23 (dimV R0)
 have bn := below_new w2 (.cells (dimV R0) 23)
 replace HT := HT.below bn
 replace h_ra := h_ra.below bn
 replace h_rb := h_rb.below bn
 replace bw := below_two bw bn
 clear bn
 have HI_a := Lib.hid h_ra.inV
 have HI_b := Lib.hid h_rb.inV
 go_wp2_with (first | (refine wpList_loadV (by rfl) 23 _ (by rfl) _ _ (by rfl) _ (by assumption) (by assumption) ?_) | (refine wpList_storeNew (by rfl) 23 _ _ (by rfl) _ _ _ (by rfl) (by rfl) (by assumption) ?_))
 clear HI_a HI_b
 generalize w2.alloc (.cells (dimV R0) 23) = w3 at *
 obtain ⟨q_m, eg⟩ : ∃ g, g = w2.heap.size := ⟨_, rfl⟩
 rw [← eg] at h_rm ⊢
 clear eg
 refine (dDiv_c HL_a.out H64_a.out HL_b.out H64_b.out _ _ H1.out).mono ?_
 rintro e w4 ⟨rfl, bn⟩
 replace HT := HT.below bn
 replace h_ra := h_ra.below bn
 replace h_rb := h_rb.below bn
 replace h_rm := h_rm.below bn
 replace bw := below_two bw bn
 clear bn
 have h_rq := rowA_new w4 23 (dimV R1)
 have bn := below_new w4 (.cells (dimV R1) 23)
 replace HT := HT.below bn
 replace h_ra := h_ra.below bn
 replace h_rb := h_rb.below bn
 replace h_rm := h_rm.below bn
 replace bw := below_two bw bn
 clear bn
 have HI_a := Lib.hid h_ra.inV
 go_wp2_with (first | (refine wpList_loadV (by rfl) 23 _ (by rfl) _ _ (by rfl) _ (by assumption) (by assumption) ?_) | (refine wpList_storeNew (by rfl) 23 _ _ (by rfl) _ _ _ (by rfl) (by rfl) (by assumption) ?_))
 clear HI_a
 generalize w4.alloc (.cells (dimV R1) 23) = w5 at *
 obtain ⟨q_q, eg⟩ : ∃ g, g = w4.heap.size := ⟨_, rfl⟩
 rw [← eg] at h_rq ⊢
 clear eg
 refine (dPow_c HL_a.out H64_a.out v_n HV0.out.1 HV0.out.2 _ _ H2.out).mono ?_
 rintro e w6 ⟨rfl, bn⟩
 replace HT := HT.below bn
 replace h_ra := h_ra.below bn
 replace h_rb := h_rb.below bn
 replace h_rm := h_rm.below bn
 replace h_rq := h_rq.below bn
 replace bw := below_two bw bn
 clear bn
 have h_rp := rowA_new w6 23 (dimV R2)
 have bn := below_new w6 (.cells (dimV R2) 23)
 replace HT := HT.below bn
 replace h_ra := h_ra.below bn
 replace h_rb := h_rb.below bn
 replace h_rm := h_rm.below bn
 replace h_rq := h_rq.below bn
 replace bw := below_two bw bn
 clear bn
 go_wp2_with (refine wpList_storeNew (by rfl) 23 _ _ (by rfl) _ _ _ (by rfl) (by rfl) (by assumption) ?_)
 generalize w6.alloc (.cells (dimV R2) 23) = w7 at *
 obtain ⟨q_p, eg⟩ : ∃ g, g = w6.heap.size := ⟨_, rfl⟩
 rw [← eg] at h_rp ⊢
 clear eg
 generalize w7 = wS at *
 refine region_freed 12 3 6 [34, 35, 36, 37, 38, 39, 40, 41, 42, 13, 14, 15] ?aF5 (fun wx => Below wS.heap.size wS wx) (fun k vv wx => match k with
  | 0 => vv = .agg (dimV xs_a)
  | 1 => vv = .agg (dimV xs_b)
  | 2 => vv = .agg (gotV R0 E0)
  | 3 => vv = .agg (dimV xs_a)
  | 4 => vv = .agg (dimV xs_b)
  | 5 => vv = .agg (gotV R1 E1)
  | 6 => vv = .agg (dimV xs_a)
  | 7 => vv = .int .i64 v_n
  | 8 => vv = .agg (gotV R2 E2)
  | 9 => ∃ (e0 : Nat), vv = .pointer (some ⟨e0, 0, none⟩) ∧ RowA wx e0 29 #[.int .i64 0, .int .i64 0, .int .i64 0, .int .i64 0, .int .i64 0, .int .i64 0, .int .i64 0, .int .i64 0] ∧ Over wS e0 wx
  | 10 => ∃ (e0 : Nat), vv = .pointer (some ⟨e0, 0, none⟩) ∧ RowA wx e0 29 #[.int .i64 0, .int .i64 0, .int .i64 0, .int .i64 0, .int .i64 0, .int .i64 0, .int .i64 0, .int .i64 0] ∧ Over wS e0 wx
  | _ => ∃ (e0 : Nat), vv = .pointer (some ⟨e0, 0, none⟩) ∧ RowA wx e0 29 #[.int .i64 0, .int .i64 0, .int .i64 0, .int .i64 0, .int .i64 0, .int .i64 0, .int .i64 0, .int .i64 0] ∧ Over wS e0 wx)
  (fun k => k == 9 || k == 10 || k == 11) (by kernel_rfl) ?haF5 rfl (by kernel_rfl) (by kernel_rfl) (fun _ _ _ _ _ h => h) ?hSb5 ?hPb5 ?hS5 ?hop5 ?hfin5
 case haF5 =>
  intro vals
  simp only [fillAll, List.getElem?_cons_zero, List.getElem?_cons_succ, Act.put, List.setIfInBounds_toArray, List.set_cons_zero, List.set_cons_succ]
  exact rfl
 case hSb5 => exact fun wx w2 hb hS => below_two hS hb
 case hPb5 =>
  intro k v wa wb hb h
  match k, h with
  | 0, h => exact h
  | 1, h => exact h
  | 2, h => exact h
  | 3, h => exact h
  | 4, h => exact h
  | 5, h => exact h
  | 6, h => exact h
  | 7, h => exact h
  | 8, h => exact h
  | 9, ⟨e0, h1, g0, g1⟩ => exact ⟨e0, h1, g0.below hb, g1.below hb⟩
  | 10, ⟨e0, h1, g0, g1⟩ => exact ⟨e0, h1, g0.below hb, g1.below hb⟩
  | _ + 11, ⟨e0, h1, g0, g1⟩ => exact ⟨e0, h1, g0.below hb, g1.below hb⟩
 case hS5 => exact (Below.refl _ _).drew
 case hop5 =>
  refine .cons (k := 0) (.plain rfl ?_) (.cons (k := 1) (.plain rfl ?_) (.cons (k := 2) (.plain rfl ?_) (.cons (k := 3) (.plain rfl ?_) (.cons (k := 4) (.plain rfl ?_) (.cons (k := 5) (.plain rfl ?_) (.cons (k := 6) (.plain rfl ?_) (.cons (k := 7) (.plain rfl ?_) (.cons (k := 8) (.plain rfl ?_) (.cons (k := 9) (.plain rfl ?_) (.cons (k := 10) (.plain rfl ?_) (.cons (k := 11) (.plain rfl ?_) (.nil))))))))))))
  all_goals intro vals wr hS hd KC hK
  all_goals (show Oper.wp _ _ _ _ _ _; dsimp only)
  · refine wp_loadV 23 _ rfl q_a 0 (by kernel_rfl) (dimV xs_a) (Lib.hid (h_ra.below hS).inV) (Lib.hid HM_a.out) ?_
    refine hK _ _ rfl (Below.refl _ _) (by first | rfl | simp) (fun h => by cases h)
  · refine wp_loadV 23 _ rfl q_b 0 (by kernel_rfl) (dimV xs_b) (Lib.hid (h_rb.below hS).inV) (Lib.hid HM_b.out) ?_
    refine hK _ _ rfl (Below.refl _ _) (by first | rfl | simp) (fun h => by cases h)
  · have d0 : vals 0 = _ := hd 0 (by decide +kernel)
    have d1 : vals 1 = _ := hd 1 (by decide +kernel)
    rw [d0, d1]
    go_simp
    go_at_call 10
    with_reducible refine (refDMul_c HL_a.out HL_b.out 1 (by decide) R0 E0 (mulD_with HL_a.out HL_b.out H0.out)).mono ?_
    rintro e w2 ⟨rfl, bn_r⟩
    refine hK _ _ rfl bn_r rfl (fun h => by cases h)
  · refine wp_loadV 23 _ rfl q_a 0 (by kernel_rfl) (dimV xs_a) (Lib.hid (h_ra.below hS).inV) (Lib.hid HM_a.out) ?_
    refine hK _ _ rfl (Below.refl _ _) (by first | rfl | simp) (fun h => by cases h)
  · refine wp_loadV 23 _ rfl q_b 0 (by kernel_rfl) (dimV xs_b) (Lib.hid (h_rb.below hS).inV) (Lib.hid HM_b.out) ?_
    refine hK _ _ rfl (Below.refl _ _) (by first | rfl | simp) (fun h => by cases h)
  · have d3 : vals 3 = _ := hd 3 (by decide +kernel)
    have d4 : vals 4 = _ := hd 4 (by decide +kernel)
    rw [d3, d4]
    go_simp
    go_at_call 10
    with_reducible refine (refDMul_c HL_a.out HL_b.out (-1) (by decide) R1 E1 (divD_with HL_a.out HL_b.out H1.out)).mono ?_
    rintro e w2 ⟨rfl, bn_r⟩
    refine hK _ _ rfl bn_r rfl (fun h => by cases h)
  · refine wp_loadV 23 _ rfl q_a 0 (by kernel_rfl) (dimV xs_a) (Lib.hid (h_ra.below hS).inV) (Lib.hid HM_a.out) ?_
    refine hK _ _ rfl (Below.refl _ _) (by first | rfl | simp) (fun h => by cases h)
  · go_simp
    refine hK _ _ rfl (Below.refl _ _) (by first | rfl | simp) (fun h => by cases h)
  · have d6 : vals 6 = _ := hd 6 (by decide +kernel)
    have d7 : vals 7 = _ := hd 7 (by decide +kernel)
    rw [d6, d7]
    go_simp
    go_at_call 11
    with_reducible refine (refDPow_c HL_a.out v_n HV0.out.1 HV0.out.2 R2 E2 H2.out).mono ?_
    rintro e w2 ⟨rfl, bn_r⟩
    refine hK _ _ rfl bn_r rfl (fun h => by cases h)
  · go_simp
    refine hK _ _ rfl (below_new _ _) ⟨_, rfl, rowA_new wr _ _, hS.size⟩ (fun _ => ⟨_, rfl, Nat.le_refl _, by rw [World.size_alloc]; omega⟩)
  · go_simp
    refine hK _ _ rfl (below_new _ _) ⟨_, rfl, rowA_new wr _ _, hS.size⟩ (fun _ => ⟨_, rfl, Nat.le_refl _, by rw [World.size_alloc]; omega⟩)
  · go_simp
    refine hK _ _ rfl (below_new _ _) ⟨_, rfl, rowA_new wr _ _, hS.size⟩ (fun _ => ⟨_, rfl, Nat.le_refl _, by rw [World.size_alloc]; omega⟩)
 case hfin5 =>
  intro vals wr hS hP hne
  have ez_2 : vals 2 = _ := hP 2 (by decide)
  have ez_5 : vals 5 = _ := hP 5 (by decide)
  have ez_8 : vals 8 = _ := hP 8 (by decide)
  obtain ⟨n_9_0, ez_9, h_9_0, h_9_1⟩ := hP 9 (by decide)
  obtain ⟨n_10_0, ez_10, h_10_0, h_10_1⟩ := hP 10 (by decide)
  obtain ⟨n_11_0, ez_11, h_11_0, h_11_1⟩ := hP 11 (by decide)
  have ne_9_10 : n_9_0 ≠ n_10_0 := hne 9 10 (by decide) (by decide) (by decide) rfl rfl _ _ ez_9 ez_10
  have ne_9_11 : n_9_0 ≠ n_11_0 := hne 9 11 (by decide) (by decide) (by decide) rfl rfl _ _ ez_9 ez_11
  have ne_10_9 : n_10_0 ≠ n_9_0 := hne 10 9 (by decide) (by decide) (by decide) rfl rfl _ _ ez_10 ez_9
  have ne_10_11 : n_10_0 ≠ n_11_0 := hne 10 11 (by decide) (by decide) (by decide) rfl rfl _ _ ez_10 ez_11
  have ne_11_9 : n_11_0 ≠ n_9_0 := hne 11 9 (by decide) (by decide) (by decide) rfl rfl _ _ ez_11 ez_9
  have ne_11_10 : n_11_0 ≠ n_10_0 := hne 11 10 (by decide) (by decide) (by decide) rfl rfl _ _ ez_11 ez_10
  have HZ0 := Lib.hid h_9_0
  have HZ1 : Hid (RowA (wr.setRow n_9_0 (gotV R0 E0)) n_10_0 29 #[.int .i64 0, .int .i64 0, .int .i64 0, .int .i64 0, .int .i64 0, .int .i64 0, .int .i64 0, .int .i64 0]) := RowA.farRow h_10_0 ne_9_10
  have HZ2 : Hid (RowA ((wr.setRow n_9_0 (gotV R0 E0)).setRow n_10_0 (gotV R1 E1)) n_11_0 29 #[.int .i64 0, .int .i64 0, .int .i64 0, .int .i64 0, .int .i64 0, .int .i64 0, .int .i64 0, .int .i64 0]) := RowA.farRow (RowA.farRow h_11_0 ne_9_11) ne_10_11
  have h_rx : RowA (((wr.setRow n_9_0 (gotV R0 E0)).setRow n_10_0 (gotV R1 E1)).setRow n_11_0 (gotV R2 E2)) n_9_0 29 (gotV R0 E0) := RowA.farRow (RowA.farRow (RowA.fill h_9_0) ne_10_9) ne_11_9
  have h_ry : RowA (((wr.setRow n_9_0 (gotV R0 E0)).setRow n_10_0 (gotV R1 E1)).setRow n_11_0 (gotV R2 E2)) n_10_0 29 (gotV R1 E1) := RowA.farRow (RowA.fill HZ1.out) ne_11_10
  have h_rz : RowA (((wr.setRow n_9_0 (gotV R0 E0)).setRow n_10_0 (gotV R1 E1)).setRow n_11_0 (gotV R2 E2)) n_11_0 29 (gotV R2 E2) := RowA.fill HZ2.out
  have bn := below_fillRow (below_fillRow (below_fillRow hS h_9_1 (gotV R0 E0)) h_10_1 (gotV R1 E1)) h_11_1 (gotV R2 E2)
  try dsimp only
  rw [ez_2, ez_5, ez_8, ez_9, ez_10, ez_11]
  refine wpAny_ready (rs := [12]) (by kernel_rfl) (by simp) (AllReady.cons rfl (fun KC hK => ?_) AllReady.nil)
  refine wp_storeV 29 _ _ rfl n_9_0 rfl _ rfl 29 _ HZ0 HG0 ?_
  refine hK _ _ ?_
  clear hK KC
  try dsimp only [Act.put]
  refine wpAny_ready (rs := [13]) (by kernel_rfl) (by simp) (AllReady.cons rfl (fun KC hK => ?_) AllReady.nil)
  refine wp_storeV 29 _ _ rfl n_10_0 rfl _ rfl 29 _ HZ1 HG1 ?_
  refine hK _ _ ?_
  clear hK KC
  try dsimp only [Act.put]
  refine wpAny_ready (rs := [14]) (by kernel_rfl) (by simp) (AllReady.cons rfl (fun KC hK => ?_) AllReady.nil)
  refine wp_storeV 29 _ _ rfl n_11_0 rfl _ rfl 29 _ HZ2 HG2 ?_
  refine hK _ _ ?_
  clear hK KC
  try dsimp only [Act.put]
  refine wpAny_done (by kernel_rfl) ?_ _
  generalize ((wr.setRow n_9_0 (gotV R0 E0)).setRow n_10_0 (gotV R1 E1)).setRow n_11_0 (gotV R2 E2) = w30 at *
  clear HZ0 HZ1 HZ2 hS hne hP ez_2 ez_5 ez_8 ez_9 ez_10 ez_11 h_9_0 h_9_1 h_10_0 h_10_1 h_11_0 h_11_1 ne_9_10 ne_9_11 ne_10_9 ne_10_11 ne_11_9 ne_11_10
  generalize n_9_0 = q_x at *
  generalize n_10_0 = q_y at *
  generalize n_11_0 = q_z at *
  replace HT := HT.below bn
  replace h_ra := h_ra.below bn
  replace h_rb := h_rb.below bn
  replace h_rm := h_rm.below bn
  replace h_rq := h_rq.below bn
  replace h_rp := h_rp.below bn
  replace bw := below_two bw bn
  clear bn
  go_wp2
  generalize w30 = wS2 at *
  refine region_freeg 51 1 [43, 44, 45, 46, 47, 48, 49, 50, 51, 52, 53, 54, 55, 56, 57, 58, 59, 60, 61, 62, 63, 64, 65, 66, 67, 68, 69, 70, 71, 72, 73, 74, 75, 76, 77, 78, 79, 80, 81, 82, 83, 84, 85, 86, 87, 88, 89, 90, 91, 92, 93] ?aF6 (fun wx => Below wS2.heap.size wS2 wx) (fun k vv wx => match k with
   | 0 => vv = .agg (dimV R0)
   | 1 => vv = .pointer (some ⟨q_x, 0, none⟩)
   | 2 => vv = .agg (dimV R0)
   | 3 => vv = .bool true
   | 4 => vv = .bool true
   | 5 => vv = .int .i64 E0
   | 6 => vv = .pointer (some ⟨q_x, 7, none⟩)
   | 7 => vv = .int .i64 E0
   | 8 => vv = .bool true
   | 9 => vv = .bool true
   | 10 => vv = .bool true
   | 11 => vv = .agg (dimV R1)
   | 12 => vv = .pointer (some ⟨q_y, 0, none⟩)
   | 13 => vv = .agg (dimV R1)
   | 14 => vv = .bool true
   | 15 => vv = .bool true
   | 16 => vv = .bool true
   | 17 => vv = .int .i64 E1
   | 18 => vv = .pointer (some ⟨q_y, 7, none⟩)
   | 19 => vv = .int .i64 E1
   | 20 => vv = .bool true
   | 21 => vv = .bool true
   | 22 => vv = .bool true
   | 23 => vv = .agg (dimV R2)
   | 24 => vv = .pointer (some ⟨q_z, 0, none⟩)
   | 25 => vv = .agg (dimV R2)
   | 26 => vv = .bool true
   | 27 => vv = .bool true
   | 28 => vv = .bool true
   | 29 => vv = .int .i64 E2
   | 30 => vv = .pointer (some ⟨q_z, 7, none⟩)
   | 31 => vv = .int .i64 E2
   | 32 => vv = .bool true
   | 33 => vv = .bool true
   | 34 => vv = .bool true
   | 35 => vv = .agg (dimV xs_a)
   | 36 => vv = .bool v
   | 37 => vv = .agg (dimV xs_a)
   | 38 => vv = .bool v
   | 39 => vv = .bool true
   | 40 => vv = .bool true
   | 41 => vv = .bool true
   | 42 => vv = .agg (dimV xs_a)
   | 43 => vv = .string St
   | 44 => vv = .agg (dimV xs_a)
   | 45 => vv = .string St
   | 46 => vv = .bool true
   | 47 => vv = .bool true
   | 48 => vv = .bool true
   | 49 => vv = .bool true
   | _ => vv = .bool true)
   (fun k => false) (by kernel_rfl) ?haF6 rfl (by kernel_rfl) (by kernel_rfl) (fun _ _ _ _ _ h => h) ?hSb6 ?hPb6 ?hS6 ?hop6 ?hfin6
  case haF6 =>
   intro vals
   simp only [fillAll, List.getElem?_cons_zero, List.getElem?_cons_succ, Act.put, List.setIfInBounds_toArray, List.set_cons_zero, List.set_cons_succ]
   exact rfl
  case hSb6 => exact fun wx w2 hb hS => below_two hS hb
  case hPb6 =>
   intro k v wa wb hb h
   match k, h with
   | 0, h => exact h
   | 1, h => exact h
   | 2, h => exact h
   | 3, h => exact h
   | 4, h => exact h
   | 5, h => exact h
   | 6, h => exact h
   | 7, h => exact h
   | 8, h => exact h
   | 9, h => exact h
   | 10, h => exact h
   | 11, h => exact h
   | 12, h => exact h
   | 13, h => exact h
   | 14, h => exact h
   | 15, h => exact h
   | 16, h => exact h
   | 17, h => exact h
   | 18, h => exact h
   | 19, h => exact h
   | 20, h => exact h
   | 21, h => exact h
   | 22, h => exact h
   | 23, h => exact h
   | 24, h => exact h
   | 25, h => exact h
   | 26, h => exact h
   | 27, h => exact h
   | 28, h => exact h
   | 29, h => exact h
   | 30, h => exact h
   | 31, h => exact h
   | 32, h => exact h
   | 33, h => exact h
   | 34, h => exact h
   | 35, h => exact h
   | 36, h => exact h
   | 37, h => exact h
   | 38, h => exact h
   | 39, h => exact h
   | 40, h => exact h
   | 41, h => exact h
   | 42, h => exact h
   | 43, h => exact h
   | 44, h => exact h
   | 45, h => exact h
   | 46, h => exact h
   | 47, h => exact h
   | 48, h => exact h
   | 49, h => exact h
   | _ + 50, h => exact h
  case hS6 => exact (Below.refl _ _).drew
  case hop6 =>
   refine .cons (k := 0) (.plain rfl ?_) (.cons (k := 1) (.plain rfl ?_) (.cons (k := 2) (.plain rfl ?_) (.cons (k := 3) (.plain rfl ?_) (.cons (k := 4) (.plain rfl ?_) (.cons (k := 5) (.yes (fun vals wr hS hd g b e => by cases e; exact hd 4 (by decide +kernel)) ?_) (.cons (k := 6) (.yes (fun vals wr hS hd g b e => by cases e; exact hd 4 (by decide +kernel)) ?_) (.cons (k := 7) (.yes (fun vals wr hS hd g b e => by cases e; exact hd 4 (by decide +kernel)) ?_) (.cons (k := 8) (.yes (fun vals wr hS hd g b e => by cases e; exact hd 4 (by decide +kernel)) ?_) (.cons (k := 9) (.plain rfl ?_) (.cons (k := 10) (.plain rfl ?_) (.cons (k := 11) (.yes (fun vals wr hS hd g b e => by cases e; exact hd 10 (by decide +kernel)) ?_) (.cons (k := 12) (.yes (fun vals wr hS hd g b e => by cases e; exact hd 10 (by decide +kernel)) ?_) (.cons (k := 13) (.yes (fun vals wr hS hd g b e => by cases e; exact hd 10 (by decide +kernel)) ?_) (.cons (k := 14) (.yes (fun vals wr hS hd g b e => by cases e; exact hd 10 (by decide +kernel)) ?_) (.cons (k := 15) (.plain rfl ?_) (.cons (k := 16) (.plain rfl ?_) (.cons (k := 17) (.yes (fun vals wr hS hd g b e => by cases e; exact hd 16 (by decide +kernel)) ?_) (.cons (k := 18) (.yes (fun vals wr hS hd g b e => by cases e; exact hd 16 (by decide +kernel)) ?_) (.cons (k := 19) (.yes (fun vals wr hS hd g b e => by cases e; exact hd 16 (by decide +kernel)) ?_) (.cons (k := 20) (.yes (fun vals wr hS hd g b e => by cases e; exact hd 16 (by decide +kernel)) ?_) (.cons (k := 21) (.plain rfl ?_) (.cons (k := 22) (.plain rfl ?_) (.cons (k := 23) (.yes (fun vals wr hS hd g b e => by cases e; exact hd 22 (by decide +kernel)) ?_) (.cons (k := 24) (.yes (fun vals wr hS hd g b e => by cases e; exact hd 22 (by decide +kernel)) ?_) (.cons (k := 25) (.yes (fun vals wr hS hd g b e => by cases e; exact hd 22 (by decide +kernel)) ?_) (.cons (k := 26) (.yes (fun vals wr hS hd g b e => by cases e; exact hd 22 (by decide +kernel)) ?_) (.cons (k := 27) (.plain rfl ?_) (.cons (k := 28) (.plain rfl ?_) (.cons (k := 29) (.yes (fun vals wr hS hd g b e => by cases e; exact hd 28 (by decide +kernel)) ?_) (.cons (k := 30) (.yes (fun vals wr hS hd g b e => by cases e; exact hd 28 (by decide +kernel)) ?_) (.cons (k := 31) (.yes (fun vals wr hS hd g b e => by cases e; exact hd 28 (by decide +kernel)) ?_) (.cons (k := 32) (.yes (fun vals wr hS hd g b e => by cases e; exact hd 28 (by decide +kernel)) ?_) (.cons (k := 33) (.plain rfl ?_) (.cons (k := 34) (.plain rfl ?_) (.cons (k := 35) (.yes (fun vals wr hS hd g b e => by cases e; exact hd 34 (by decide +kernel)) ?_) (.cons (k := 36) (.yes (fun vals wr hS hd g b e => by cases e; exact hd 34 (by decide +kernel)) ?_) (.cons (k := 37) (.yes (fun vals wr hS hd g b e => by cases e; exact hd 34 (by decide +kernel)) ?_) (.cons (k := 38) (.yes (fun vals wr hS hd g b e => by cases e; exact hd 34 (by decide +kernel)) ?_) (.cons (k := 39) (.yes (fun vals wr hS hd g b e => by cases e; exact hd 34 (by decide +kernel)) ?_) (.cons (k := 40) (.plain rfl ?_) (.cons (k := 41) (.plain rfl ?_) (.cons (k := 42) (.yes (fun vals wr hS hd g b e => by cases e; exact hd 41 (by decide +kernel)) ?_) (.cons (k := 43) (.yes (fun vals wr hS hd g b e => by cases e; exact hd 41 (by decide +kernel)) ?_) (.cons (k := 44) (.yes (fun vals wr hS hd g b e => by cases e; exact hd 41 (by decide +kernel)) ?_) (.cons (k := 45) (.yes (fun vals wr hS hd g b e => by cases e; exact hd 41 (by decide +kernel)) ?_) (.cons (k := 46) (.yes (fun vals wr hS hd g b e => by cases e; exact hd 41 (by decide +kernel)) ?_) (.cons (k := 47) (.plain rfl ?_) (.cons (k := 48) (.plain rfl ?_) (.cons (k := 49) (.yes (fun vals wr hS hd g b e => by cases e; exact hd 48 (by decide +kernel)) ?_) (.cons (k := 50) (.plain rfl ?_) (.nil)))))))))))))))))))))))))))))))))))))))))))))))))))
   all_goals intro vals wr hS hd KC hK
   all_goals (show Oper.wp _ _ _ _ _ _; dsimp only)
   · refine wp_loadV 23 _ rfl q_m 0 (by kernel_rfl) (dimV R0) (Lib.hid (h_rm.below hS).inV) (Lib.hid HM_R0.out) ?_
     refine hK _ _ rfl (Below.refl _ _) (by first | rfl | simp) (fun h => by cases h)
   · go_simp
     refine hK _ _ rfl (Below.refl _ _) (by first | rfl | simp) (fun h => by cases h)
   · have d1 : vals 1 = _ := hd 1 (by decide +kernel)
     rw [d1]
     refine wp_loadV 23 _ rfl q_x 0 (by kernel_rfl) (dimV R0) (Lib.hid (got_dim (h_rx.below hS))) (Lib.hid HM_R0.out) ?_
     refine hK _ _ rfl (Below.refl _ _) (by first | rfl | simp) (fun h => by cases h)
   · have d0 : vals 0 = _ := hd 0 (by decide +kernel)
     have d2 : vals 2 = _ := hd 2 (by decide +kernel)
     rw [d0, d2]
     have heq := fun W => equal_dim (xs := R0) (ys := R0) HL0.out HL0.out (b := true) (by simp) W
     go_simp
     refine hK _ _ rfl (Below.refl _ _) (by first | rfl | simp) (fun h => by cases h)
   · have d3 : vals 3 = _ := hd 3 (by decide +kernel)
     rw [d3]
     go_simp
     refine hK _ _ rfl (Below.refl _ _) (by first | rfl | simp) (fun h => by cases h)
   · go_simp
     refine hK _ _ rfl (Below.refl _ _) (by first | rfl | simp) (fun h => by cases h)
   · go_simp
     refine hK _ _ rfl (Below.refl _ _) (by first | rfl | simp) (fun h => by cases h)
   · have d6 : vals 6 = _ := hd 6 (by decide +kernel)
     rw [d6]
     have z0 := got_err HL0.out (h_rx.below hS)
     go_simp
     refine hK _ _ rfl (Below.refl _ _) (by first | rfl | simp) (fun h => by cases h)
   · have d5 : vals 5 = _ := hd 5 (by decide +kernel)
     have d7 : vals 7 = _ := hd 7 (by decide +kernel)
     rw [d5, d7]
     go_simp
     refine hK _ _ rfl (Below.refl _ _) (by first | rfl | simp) (fun h => by cases h)
   · have d4 : vals 4 = _ := hd 4 (by decide +kernel)
     have d8 : vals 8 = _ := hd 8 (by decide +kernel)
     rw [d4, d8]
     go_simp
     refine hK _ _ rfl (Below.refl _ _) (by first | rfl | simp) (fun h => by cases h)
   · have d9 : vals 9 = _ := hd 9 (by decide +kernel)
     rw [d9]
     go_simp
     refine hK _ _ rfl (Below.refl _ _) (by first | rfl | simp) (fun h => by cases h)
   · refine wp_loadV 23 _ rfl q_q 0 (by kernel_rfl) (dimV R1) (Lib.hid (h_rq.below hS).inV) (Lib.hid HM_R1.out) ?_
     refine hK _ _ rfl (Below.refl _ _) (by first | rfl | simp) (fun h => by cases h)
   · go_simp
     refine hK _ _ rfl (Below.refl _ _) (by first | rfl | simp) (fun h => by cases h)
   · have d12 : vals 12 = _ := hd 12 (by decide +kernel)
     rw [d12]
     refine wp_loadV 23 _ rfl q_y 0 (by kernel_rfl) (dimV R1) (Lib.hid (got_dim (h_ry.below hS))) (Lib.hid HM_R1.out) ?_
     refine hK _ _ rfl (Below.refl _ _) (by first | rfl | simp) (fun h => by cases h)
   · have d11 : vals 11 = _ := hd 11 (by decide +kernel)
     have d13 : vals 13 = _ := hd 13 (by decide +kernel)
     rw [d11, d13]
     have heq := fun W => equal_dim (xs := R1) (ys := R1) HL1.out HL1.out (b := true) (by simp) W
     go_simp
     refine hK _ _ rfl (Below.refl _ _) (by first | rfl | simp) (fun h => by cases h)
   · have d10 : vals 10 = _ := hd 10 (by decide +kernel)
     have d14 : vals 14 = _ := hd 14 (by decide +kernel)
     rw [d10, d14]
     go_simp
     refine hK _ _ rfl (Below.refl _ _) (by first | rfl | simp) (fun h => by cases h)
   · have d15 : vals 15 = _ := hd 15 (by decide +kernel)
     rw [d15]
     go_simp
     refine hK _ _ rfl (Below.refl _ _) (by first | rfl | simp) (fun h => by cases h)
   · go_simp
     refine hK _ _ rfl (Below.refl _ _) (by first | rfl | simp) (fun h => by cases h)
   · go_simp
     refine hK _ _ rfl (Below.refl _ _) (by first | rfl | simp) (fun h => by cases h)
   · have d18 : vals 18 = _ := hd 18 (by decide +kernel)
     rw [d18]
     have z0 := got_err HL1.out (h_ry.below hS)
     go_simp
     refine hK _ _ rfl (Below.refl _ _) (by first | rfl | simp) (fun h => by cases h)
   · have d17 : vals 17 = _ := hd 17 (by decide +kernel)
     have d19 : vals 19 = _ := hd 19 (by decide +kernel)
     rw [d17, d19]
     go_simp
     refine hK _ _ rfl (Below.refl _ _) (by first | rfl | simp) (fun h => by cases h)
   · have d16 : vals 16 = _ := hd 16 (by decide +kernel)
     have d20 : vals 20 = _ := hd 20 (by decide +kernel)
     rw [d16, d20]
     go_simp
     refine hK _ _ rfl (Below.refl _ _) (by first | rfl | simp) (fun h => by cases h)
   · have d21 : vals 21 = _ := hd 21 (by decide +kernel)
     rw [d21]
     go_simp
     refine hK _ _ rfl (Below.refl _ _) (by first | rfl | simp) (fun h => by cases h)
   · refine wp_loadV 23 _ rfl q_p 0 (by kernel_rfl) (dimV R2) (Lib.hid (h_rp.below hS).inV) (Lib.hid HM_R2.out) ?_
     refine hK _ _ rfl (Below.refl _ _) (by first | rfl | simp) (fun h => by cases h)
   · go_simp
     refine hK _ _ rfl (Below.refl _ _) (by first | rfl | simp) (fun h => by cases h)
   · have d24 : vals 24 = _ := hd 24 (by decide +kernel)
     rw [d24]
     refine wp_loadV 23 _ rfl q_z 0 (by kernel_rfl) (dimV R2) (Lib.hid (got_dim (h_rz.below hS))) (Lib.hid HM_R2.out) ?_
     refine hK _ _ rfl (Below.refl _ _) (by first | rfl | simp) (fun h => by cases h)
   · have d23 : vals 23 = _ := hd 23 (by decide +kernel)
     have d25 : vals 25 = _ := hd 25 (by decide +kernel)
     rw [d23, d25]
     have heq := fun W => equal_dim (xs := R2) (ys := R2) HL2.out HL2.out (b := true) (by simp) W
     go_simp
     refine hK _ _ rfl (Below.refl _ _) (by first | rfl | simp) (fun h => by cases h)
   · have d22 : vals 22 = _ := hd 22 (by decide +kernel)
     have d26 : vals 26 = _ := hd 26 (by decide +kernel)
     rw [d22, d26]
     go_simp
     refine hK _ _ rfl (Below.refl _ _) (by first | rfl | simp) (fun h => by cases h)
   · have d27 : vals 27 = _ := hd 27 (by decide +kernel)
     rw [d27]
     go_simp
     refine hK _ _ rfl (Below.refl _ _) (by first | rfl | simp) (fun h => by cases h)
   · go_simp
     refine hK _ _ rfl (Below.refl _ _) (by first | rfl | simp) (fun h => by cases h)
   · go_simp
     refine hK _ _ rfl (Below.refl _ _) (by first | rfl | simp) (fun h => by cases h)
   · have d30 : vals 30 = _ := hd 30 (by decide +kernel)
     rw [d30]
     have z0 := got_err HL2.out (h_rz.below hS)
     go_simp
     refine hK _ _ rfl (Below.refl _ _) (by first | rfl | simp) (fun h => by cases h)
   · have d29 : vals 29 = _ := hd 29 (by decide +kernel)
     have d31 : vals 31 = _ := hd 31 (by decide +kernel)
     rw [d29, d31]
     go_simp
     refine hK _ _ rfl (Below.refl _ _) (by first | rfl | simp) (fun h => by cases h)
   · have d28 : vals 28 = _ := hd 28 (by decide +kernel)
     have d32 : vals 32 = _ := hd 32 (by decide +kernel)
     rw [d28, d32]
     go_simp
     refine hK _ _ rfl (Below.refl _ _) (by first | rfl | simp) (fun h => by cases h)
   · have d33 : vals 33 = _ := hd 33 (by decide +kernel)
     rw [d33]
     go_simp
     refine hK _ _ rfl (Below.refl _ _) (by first | rfl | simp) (fun h => by cases h)
   · refine wp_loadV 23 _ rfl q_a 0 (by kernel_rfl) (dimV xs_a) (Lib.hid (h_ra.below hS).inV) (Lib.hid HM_a.out) ?_
     refine hK _ _ rfl (Below.refl _ _) (by first | rfl | simp) (fun h => by cases h)
   · have d35 : vals 35 = _ := hd 35 (by decide +kernel)
     rw [d35]
     go_simp
     go_at_call 12
     with_reducible refine (dGood_c HL_a.out H64_a.out v HV.out).mono ?_
     rintro e w2 ⟨rfl, bn_r⟩
     refine hK _ _ rfl bn_r rfl (fun h => by cases h)
   · refine wp_loadV 23 _ rfl q_a 0 (by kernel_rfl) (dimV xs_a) (Lib.hid (h_ra.below hS).inV) (Lib.hid HM_a.out) ?_
     refine hK _ _ rfl (Below.refl _ _) (by first | rfl | simp) (fun h => by cases h)
   · have d37 : vals 37 = _ := hd 37 (by decide +kernel)
     rw [d37]
     go_simp
     go_at_call 13
     with_reducible refine (refDGood_c HL_a.out v HV.out).mono ?_
     rintro e w2 ⟨rfl, bn_r⟩
     refine hK _ _ rfl bn_r rfl (fun h => by cases h)
   · have d36 : vals 36 = _ := hd 36 (by decide +kernel)
     have d38 : vals 38 = _ := hd 38 (by decide +kernel)
     rw [d36, d38]
     go_simp
     refine hK _ _ rfl (Below.refl _ _) (by first | rfl | simp) (fun h => by cases h)
   · have d34 : vals 34 = _ := hd 34 (by decide +kernel)
     have d39 : vals 39 = _ := hd 39 (by decide +kernel)
     rw [d34, d39]
     go_simp
     refine hK _ _ rfl (Below.refl _ _) (by first | rfl | simp) (fun h => by cases h)
   · have d40 : vals 40 = _ := hd 40 (by decide +kernel)
     rw [d40]
     go_simp
     refine hK _ _ rfl (Below.refl _ _) (by first | rfl | simp) (fun h => by cases h)
   · refine wp_loadV 23 _ rfl q_a 0 (by kernel_rfl) (dimV xs_a) (Lib.hid (h_ra.below hS).inV) (Lib.hid HM_a.out) ?_
     refine hK _ _ rfl (Below.refl _ _) (by first | rfl | simp) (fun h => by cases h)
   · have d42 : vals 42 = _ := hd 42 (by decide +kernel)
     rw [d42]
     go_simp
     go_at_call 14
     with_reducible refine (dText_c HL_a.out H64_a.out St HSt.out (HT.below hS)).mono ?_
     rintro e w2 ⟨rfl, bn_r⟩
     refine hK _ _ rfl bn_r rfl (fun h => by cases h)
   · refine wp_loadV 23 _ rfl q_a 0 (by kernel_rfl) (dimV xs_a) (Lib.hid (h_ra.below hS).inV) (Lib.hid HM_a.out) ?_
     refine hK _ _ rfl (Below.refl _ _) (by first | rfl | simp) (fun h => by cases h)
   · have d44 : vals 44 = _ := hd 44 (by decide +kernel)
     rw [d44]
     go_simp
     go_at_call 15
     with_reducible refine (refDText_c HL_a.out H64_a.out St HSt.out).mono ?_
     rintro e w2 ⟨rfl, bn_r⟩
     refine hK _ _ rfl bn_r rfl (fun h => by cases h)
   · have d43 : vals 43 = _ := hd 43 (by decide +kernel)
     have d45 : vals 45 = _ := hd 45 (by decide +kernel)
     rw [d43, d45]
     go_simp
     refine hK _ _ rfl (Below.refl _ _) (by first | rfl | simp) (fun h => by cases h)
   · have d41 : vals 41 = _ := hd 41 (by decide +kernel)
     have d46 : vals 46 = _ := hd 46 (by decide +kernel)
     rw [d41, d46]
     go_simp
     refine hK _ _ rfl (Below.refl _ _) (by first | rfl | simp) (fun h => by cases h)
   · have d47 : vals 47 = _ := hd 47 (by decide +kernel)
     rw [d47]
     go_simp
     refine hK _ _ rfl (Below.refl _ _) (by first | rfl | simp) (fun h => by cases h)
   · go_simp
     go_at_call 16
     with_reducible refine (wakes_any _ (HT.below hS)).mono ?_
     rintro e w2 ⟨rfl, bn_r⟩
     refine hK _ _ rfl bn_r rfl (fun h => by cases h)
   · have d48 : vals 48 = _ := hd 48 (by decide +kernel)
     have d49 : vals 49 = _ := hd 49 (by decide +kernel)
     rw [d48, d49]
     go_simp
     refine hK _ _ rfl (Below.refl _ _) (by first | rfl | simp) (fun h => by cases h)
  case hfin6 =>
   intro vals wr hS hP hne
   have ez_50 : vals 50 = _ := hP 50 (by decide)
   have HB := Lib.hid (below_two bw hS)
   try dsimp only
   rw [ez_50]
   refine wpAny_ready (rs := [51]) (by kernel_rfl) (by simp) (AllReady.cons rfl (fun KC hK => ?_) AllReady.nil)
   go_simp
   refine hK _ _ ?_
   clear hK KC
   refine wpAny_done (by kernel_rfl) ?_ _
   go_wp2
   go_ret
   exact ⟨rfl, HB.out⟩
theorem tab_of {W : World} (h : laidMet Tryd.prog Rows.dimTellsRow.laid W) : DTab W := by
 refine ⟨?_, ?_⟩
 · first | exact units_tab (laidMet_drop 0 h) (by decide +kernel) | exact units_tab (laidMet_drop 1 h) (by decide +kernel) | exact units_tab (laidMet_drop 2 h) (by decide +kernel) | exact units_tab (laidMet_drop 3 h) (by decide +kernel) | exact units_tab (laidMet_drop 4 h) (by decide +kernel) | exact units_tab (laidMet_drop 5 h) (by decide +kernel) | exact units_tab (laidMet_drop 6 h) (by decide +kernel) | exact units_tab (laidMet_drop 7 h) (by decide +kernel) | exact units_tab (laidMet_drop 8 h) (by decide +kernel) | exact units_tab (laidMet_drop 9 h) (by decide +kernel) | exact units_tab (laidMet_drop 10 h) (by decide +kernel) | exact units_tab (laidMet_drop 11 h) (by decide +kernel) | exact units_tab (laidMet_drop 12 h) (by decide +kernel) | exact units_tab (laidMet_drop 13 h) (by decide +kernel)
 · first | exact pow10_tab (laidMet_drop 0 h) (by decide +kernel) | exact pow10_tab (laidMet_drop 1 h) (by decide +kernel) | exact pow10_tab (laidMet_drop 2 h) (by decide +kernel) | exact pow10_tab (laidMet_drop 3 h) (by decide +kernel) | exact pow10_tab (laidMet_drop 4 h) (by decide +kernel) | exact pow10_tab (laidMet_drop 5 h) (by decide +kernel) | exact pow10_tab (laidMet_drop 6 h) (by decide +kernel) | exact pow10_tab (laidMet_drop 7 h) (by decide +kernel) | exact pow10_tab (laidMet_drop 8 h) (by decide +kernel) | exact pow10_tab (laidMet_drop 9 h) (by decide +kernel) | exact pow10_tab (laidMet_drop 10 h) (by decide +kernel) | exact pow10_tab (laidMet_drop 11 h) (by decide +kernel) | exact pow10_tab (laidMet_drop 12 h) (by decide +kernel) | exact pow10_tab (laidMet_drop 13 h) (by decide +kernel)
set_option maxRecDepth 100000 in
theorem lifted (os : Os) (started : os.Started) (H : Type) (enc : TypeId × Value → H) :
 ReturnsInHanded {} Tryd.checked os 3 .any (fun w args => (Rows.dimTellsSpec.pre enc Tryd.prog Tryd.f3 [] false w args ∧ laidMetH Tryd.prog Rows.dimTellsRow.laid w) ∧ sizedMet enc Tryd.prog Tryd.f3 (OpenSpec.ofChange Rows.dimTellsSpec) false w args)
  (Rows.dimTellsSpec.post enc Tryd.prog Tryd.f3 false true false false) := by
 refine returnsInHanded_of_change_and (C := Tryd.checked) (X := fun w _ => laidMetH Tryd.prog Rows.dimTellsRow.laid w) (fun _ _ _ hh h => h.of_heap hh) own started (by kernel_rfl) Tryd.func3
  (ChangeSpec.witness_shaped (enc := enc) (C := Tryd.checked) (os := os) (X := fun w _ => laidMetH Tryd.prog Rows.dimTellsRow.laid w) false (World.laidAll Tryd.prog os Rows.dimTellsRow.laid) #[.agg #[.int .i64 0, .int .i64 0, .int .i64 0, .int .i64 0, .int .i64 0, .int .i64 0, .int .i64 0], .agg #[.int .i64 0, .int .i64 0, .int .i64 0, .int .i64 0, .int .i64 0, .int .i64 0, .int .i64 0], .int .i64 0] 8 (World.laidAll_os _ _ _)
    (World.shaped_of_ZipB (by kernel_rfl) (by kernel_rfl)) (by kernel_rfl) (by kernel_rfl) (by kernel_rfl)
    (by rw [MakeChecks.laidMetH_plain _ _ _ (by kernel_rfl)]; exact laidMet_laidAll _ (by kernel_rfl) (by kernel_rfl))) ?_
 intro W base args ds gs before hval0 hW _ _ hL _
 have hval : ∀ (j : Nat) t v, Tryd.f3.params[j]? = some t → args[j]? = some v → Value.okWide Tryd.prog W .any base t v := hval0
 have hW' := hW
 obtain ⟨p, q, hA0, hV, rfl, hfz, hnd⟩ := hW
 have hA : DataW.TrodAll enc Tryd.prog W 0 (fun _ => true) true Tryd.f3.params.toList args.toList ds p := hA0
 rw [Tryd.params3] at hA hval
 obtain ⟨v0, vs0, d0, ds0, p0, q0, hargs, rfl, rfl, h0, r0⟩ := trodAll_cons hA
 obtain ⟨v1, vs1, d1, ds1, p1, q1, rfl, rfl, rfl, h1, r1⟩ := trodAll_cons r0
 obtain ⟨v2, vs2, d2, ds2, p2, q2, rfl, rfl, rfl, h2, r2⟩ := trodAll_cons r1
 obtain ⟨rfl, rfl, rfl⟩ := trodAll_nil r2
 obtain rfl : args = #[v0, v1, v2] := by cases args; simp_all
 obtain ⟨rfl, rfl⟩ := trodVars_none hV
 obtain ⟨z0, rfl, w0, u0⟩ := open_arr (n := 7) (K := .i64) Tryd.underlying23 Tryd.underlying3 (by kernel_rfl) (by kernel_rfl) (hval 0 23 v0 rfl rfl) h0
 obtain ⟨z1, rfl, w1, u1⟩ := open_arr (n := 7) (K := .i64) Tryd.underlying23 Tryd.underlying3 (by kernel_rfl) (by kernel_rfl) (hval 1 23 v1 rfl rfl) h1
 obtain ⟨a2, rfl, rfl, rfl, w2⟩ := open_int Tryd.underlying3 (hval 2 3 v2 rfl rfl) h2
 clear hA0 hval0
 simp only [List.append_nil] at hW'
 rw [MakeChecks.laidMetH_plain _ _ _ (by kernel_rfl)] at hL
 refine (walk z0 z1 a2 W w0 u0 w1 u1 w2 (tab_of hL)).mono fun e W' ⟨he, bel⟩ => ?_
 subst he
 exact ⟨_, rfl, _, _, _, [], _, [], hW', trodAll_mk1 (shut_bool Tryd.underlying4 _), (trodAll_cons_mk (Below.trod laidOut (by kernel_rfl) (of_decide_eq_true (by kernel_rfl)) h0 bel (places_lt h0)) (trodAll_cons_mk (Below.trod laidOut (by kernel_rfl) (of_decide_eq_true (by kernel_rfl)) h1 bel (places_lt h1)) (trodAll_cons_mk (shut_int Tryd.underlying3 w2) trodAll_mk0))), rfl, bel.frame _, fun h => by cases h⟩
theorem over : Rows.dimTellsRow.holds Tryd.pinned (OpenSpec.ofChange Rows.dimTellsSpec) :=
 OpenClaim.holds_of_wide 3 Tryd.f3 rfl rfl rfl rfl rfl rfl rfl ⟨rfl, rfl, rfl, rfl, rfl⟩ rfl rfl rfl rfl rfl (by kernel_rfl) Tryd.func3 (by kernel_rfl)
  (of_decide_eq_true (by kernel_rfl)) (by unfold Func.isWrapper; first | (rw [if_pos (by decide +kernel)]; kernel_rfl) | (rw [if_neg (by decide +kernel)]; exact ⟨rfl, rfl⟩))
  (fun os started H enc _ => lifted os started H enc)
theorem proved : Rows.DimTellsCardSaid :=
 Claim7.holds_tied_plain_at .later [] Rows.dimTellsCard.laidKinds true Rows.dimTellsCard.stood.harness Rows.dimTellsCard.stood.looks
  over (fun _ h => by cases h) (by kernel_rfl) (fun _ h => by cases h) dimTells_row_tie rfl ⟨rfl, rfl⟩ (by kernel_rfl) rfl
  (fun f fn hf hfn => by
    obtain rfl : f = 3 := Option.some.inj ((show Tryd.prog.funcNamed Rows.dimTellsRow.func = some 3 by kernel_rfl).symm.trans hf) |>.symm
    obtain rfl : fn = Tryd.f3 := (Option.some.inj (Tryd.func3.symm.trans hfn)).symm
    exact ⟨by kernel_rfl, fun j t ht => by
     have hm : t ∈ Tryd.f3.params.toList := by simpa using Array.mem_of_getElem? ht
     have hall : (Tryd.f3.params.toList.all fun u => !Tryd.prog.wantsStandIn u) = true := by kernel_rfl
     exact (show Tryd.prog.wantsStandIn t = false by simpa using List.all_eq_true.1 hall t hm)⟩)
  (by kernel_rfl)
end Go.Proofs.YtbljphnfijiciaaDoor.lawDimTells
