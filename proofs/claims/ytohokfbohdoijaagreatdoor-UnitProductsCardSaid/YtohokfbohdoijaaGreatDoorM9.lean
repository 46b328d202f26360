/- Part 9 of the texts that the statements of this seat lean on: mathematics, and what functions answer, as contracts over memory; each part says its own conditions. -/
import Derived.Test.YtohokfbohdoijaaGreatDoorM8
import Derived.Maps.OwnSet
import Derived.Maps.OwnOps
import Derived.Maps.Ext
import Derived.Sort.KeysCollected
import Derived.LoopIn
import Derived.Lib.LaidTab
import Derived.Lib.LaidU8
/- What package dim's Good answers, as a contract over memory. Condition: seven exponents. -/
namespace Go.Proofs.YtohokfbohdoijaaGreatDoor
open Go.RowKit Limb
set_option linter.unusedVariables false
section
variable {w : World} {xs ys : List Int}
set_option maxHeartbeats 4000000 in
set_option maxRecDepth 100000 in
theorem dGood_c (hx : xs.length = 7) (h64 : I64 xs) (v : Bool) (hv : goodD xs = v) :
 Calls Tryz.prog 71 #[.agg (dimV xs)] w fun e w' => e = .returned (.bool v) ∧ Below w.heap.size w w' := by
 have b0 := below_new w (.cells (dimV xs) 35)
 have h_rx := rowA_new w 35 (dimV xs)
 have HB := Lib.hid b0
 have HX := Lib.hid hx
 have H64 := Lib.hid h64
 have HV := Lib.hid hv
 clear b0 hx h64 hv
 go_enter Tryz.func71, Tryz.ntmps71
 go_wp2_with fail
 generalize w.alloc (.cells (dimV xs) 35) = wS at *
 obtain ⟨q_x, eg⟩ : ∃ g, g = w.heap.size := ⟨_, rfl⟩
 rw [← eg] at h_rx ⊢
 clear eg
 refine region_free 4 1 [3, 4, 5, 6] ?aF1 (fun wx => Below wS.heap.size wS wx) (fun k vv wx => match k with
  | 0 => vv = .agg (dimV xs)
  | 1 => vv = .agg (dimV xs)
  | 2 => vv = .agg (dimV (xs.map (clampE 200)))
  | _ => vv = .bool v)
  (fun k => false) (by kernel_rfl) ?haF1 rfl (by kernel_rfl) (by kernel_rfl) (fun _ _ _ _ _ h => h) ?hSb1 ?hPb1 ?hS1 ?hop1 ?hfin1
 case haF1 =>
  intro vals
  simp only [fillAll, List.getElem?_cons_zero, List.getElem?_cons_succ, Act.put, List.setIfInBounds_toArray, List.set_cons_zero, List.set_cons_succ]
  exact rfl
 case hSb1 => exact fun wx w2 hb hS => below_two hS hb
 case hPb1 =>
  intro k v wa wb hb h
  match k, h with
  | 0, h => exact h
  | 1, h => exact h
  | 2, h => exact h
  | _ + 3, h => exact h
 case hS1 => exact (Below.refl _ _).drew
 case hop1 =>
  refine .cons (k := 0) ?_ (.cons (k := 1) ?_ (.cons (k := 2) ?_ (.cons (k := 3) ?_ (.nil))))
  all_goals intro vals wr hS hd KC hK
  all_goals (show Oper.wp _ _ _ _ _ _; dsimp only)
  · refine wp_loadV 35 _ rfl _ _ rfl (dimV xs) (Lib.hid (h_rx.below hS).inV) (Lib.hid (many7 HX.out)) ?_
    refine hK _ _ rfl (Below.refl _ _) (by first | rfl | simp) (fun h => by cases h)
  · refine wp_loadV 35 _ rfl _ _ rfl (dimV xs) (Lib.hid (h_rx.below hS).inV) (Lib.hid (many7 HX.out)) ?_
    refine hK _ _ rfl (Below.refl _ _) (by first | rfl | simp) (fun h => by cases h)
  · have d1 : vals 1 = _ := hd 1 (by decide +kernel)
    rw [d1]
    go_simp
    go_at_call 109
    with_reducible refine (dNearest_c HX.out H64.out).mono ?_
    rintro e w2 ⟨rfl, bn_r⟩
    refine hK _ _ rfl bn_r rfl (fun h => by cases h)
  · have d0 : vals 0 = _ := hd 0 (by decide +kernel)
    have d2 : vals 2 = _ := hd 2 (by decide +kernel)
    rw [d0, d2]
    have heq := fun W => equal_dim (xs := xs) (ys := xs.map (clampE 200)) HX.out (by rw [List.length_map]; exact HX.out) ((near_good xs).trans HV.out) W
    go_simp
    refine hK _ _ rfl (Below.refl _ _) (by first | rfl | simp) (fun h => by cases h)
 case hfin1 =>
  intro vals wr hS hP hne
  have ez_3 : vals 3 = _ := hP 3 (by decide)
  try dsimp only
  rw [ez_3]
  refine wpAny_ready (rs := [4]) (by kernel_rfl) (by simp) (AllReady.cons rfl (fun KC hK => ?_) AllReady.nil)
  go_simp
  refine hK _ _ ?_
  clear hK KC
  refine wpAny_done (by kernel_rfl) ?_ _
  go_wp2
  go_ret
  exact ⟨rfl, below_two HB.out hS⟩
def addN (xs ys : List Int) (n : Int) : List Int := List.zipWith (fun x y => x + n * y) xs ys
def withD (xs ys : List Int) (n : Int) : List Int × Int := if goodD xs = true ∧ goodD ys = true then mayD (addN xs ys n) else (dim0, 1)
def addTo (xs ys : List Int) (n : Int) (i : Nat) : List Int := (addN xs ys n).take i ++ xs.drop i
theorem len_addN {n : Int} (hx : xs.length = 7) (hy : ys.length = 7) : (addN xs ys n).length = 7 := by unfold addN; rw [List.length_zipWith, hx, hy]; rfl
theorem addTo_zero {n : Int} (h : xs.length = ys.length) : addTo xs ys n 0 = xs := by simp [addTo]
theorem addTo_all {n : Int} (hx : xs.length = 7) (hy : ys.length = 7) : addTo xs ys n 7 = addN xs ys n := by
 unfold addTo
 rw [List.take_of_length_le (by rw [len_addN hx hy]; decide), List.drop_of_length_le (by rw [hx]; decide), List.append_nil]
theorem addN_at {n : Int} {i : Nat} (h : i < xs.length) (k : i < ys.length) : (addN xs ys n).getD i 0 = xs.getD i 0 + n * ys.getD i 0 := by
 have hl : i < (List.zipWith (fun x y => x + n * y) xs ys).length := by rw [List.length_zipWith]; omega
 unfold addN
 simp only [List.getD_eq_getElem?_getD, List.getElem?_eq_getElem hl, List.getElem?_eq_getElem h, List.getElem?_eq_getElem k, List.getElem_zipWith, Option.getD_some]
theorem len_addTo {n : Int} {i : Nat} : (addTo xs ys n i).length = min i (min xs.length ys.length) + (xs.length - i) := by unfold addTo addN; simp
theorem addTo_at {n : Int} {i : Nat} (h : i < xs.length) (k : i < ys.length) : (addTo xs ys n i).getD i 0 = xs.getD i 0 := by
 have e : ((addN xs ys n).take i).length = i := by unfold addN; simp; omega
 unfold addTo
 rw [List.getD_eq_getElem?_getD, List.getElem?_append_right (by omega), e, Nat.sub_self, List.getElem?_drop, Nat.add_zero, List.getD_eq_getElem?_getD]
theorem addTo_step {n : Int} {i : Nat} (h : i < xs.length) (k : i < ys.length) : (addTo xs ys n i).set i (xs.getD i 0 + n * ys.getD i 0) = addTo xs ys n (i + 1) := by
 have hl : i < (addN xs ys n).length := by unfold addN; simp; omega
 have e : (addN xs ys n)[i] = xs.getD i 0 + n * ys.getD i 0 := by rw [← addN_at h k, List.getD_eq_getElem?_getD, List.getElem?_eq_getElem hl]; rfl
 unfold addTo
 rw [List.take_succ_eq_append_getElem hl, List.set_append_right _ _ (by simp; omega), List.append_assoc, e]
 congr 1
 rw [List.length_take, Nat.min_eq_left (by omega), Nat.sub_self, List.drop_eq_getElem_cons h]
 rfl
theorem good_at {i : Nat} (h : goodD xs = true) (hi : i < xs.length) : -200 ≤ xs.getD i 0 ∧ xs.getD i 0 ≤ 200 := by
 have e : xs.getD i 0 = xs[i] := by simp [List.getD_eq_getElem?_getD, hi]
 rw [e]; exact goodD_iff.1 h _ (List.getElem_mem _)
theorem times_bound {n y p : Int} (hn : -201 ≤ n ∧ n ≤ 201) (hy : -200 ≤ y ∧ y ≤ 200) (hp : n * y = p) : -40200 ≤ p ∧ p ≤ 40200 := by
 subst hp
 have h1 : (n * y).natAbs ≤ 201 * 200 := by
  rw [Int.natAbs_mul]
  exact Nat.mul_le_mul (by omega) (by omega)
 omega
theorem addN_i64 {n : Int} (hx : goodD xs = true) (hy : goodD ys = true) (hn : -201 ≤ n ∧ n ≤ 201) : I64 (addN xs ys n) := by
 intro z hz
 unfold addN at hz
 obtain ⟨i, hi, rfl⟩ := List.mem_iff_getElem.1 hz
 rw [List.getElem_zipWith]
 rw [List.length_zipWith] at hi
 have h1 := goodD_iff.1 hx _ (List.getElem_mem (n := i) (by omega))
 have h2 := goodD_iff.1 hy _ (List.getElem_mem (n := i) (by omega))
 have h3 := times_bound hn h2 rfl
 omega
theorem i64_good (h : goodD xs = true) : I64 xs := fun x hx => by have := goodD_iff.1 h x hx; omega
set_option maxHeartbeats 4000000 in
set_option maxRecDepth 100000 in
theorem dWith_c (hx_xs : xs.length = 7) (h64_xs : I64 xs) (hx_ys : ys.length = 7) (h64_ys : I64 ys) (n : Int) (hn : -201 ≤ n ∧ n ≤ 201) (R : List Int) (E : Int) (hR : withD xs ys n = (R, E)) :
 Calls Tryz.prog 57 #[.agg (dimV xs), .agg (dimV ys), .int .i64 n] w fun e w' => e = .returned (.tuple #[.agg (dimV R), .int .i64 E]) ∧ Below w.heap.size w w' := by
 unfold withD at hR
 have HN := Lib.hid hn
 have HX_xs := Lib.hid hx_xs
 have H64_xs := Lib.hid h64_xs
 have HM_xs := Lib.hid (many7 hx_xs)
 clear hx_xs h64_xs
 have HX_ys := Lib.hid hx_ys
 have H64_ys := Lib.hid h64_ys
 have HM_ys := Lib.hid (many7 hx_ys)
 clear hx_ys h64_ys
 by_cases ga : goodD xs = true
 · by_cases gb : goodD ys = true
   · rw [if_pos ⟨ga, gb⟩] at hR
     have Hga := Lib.hid ga
     have Hgb := Lib.hid gb
     have HR := Lib.hid hR
     clear ga gb hR
     have bw := bel_refl w
     have h_rxs := rowA_new w 35 (dimV xs)
     have bn := below_new w (.cells (dimV xs) 35)
     replace bw := below_two bw bn
     clear bn
     have h_rys := rowA_new (w.alloc (.cells (dimV xs) 35)) 35 (dimV ys)
     have bn := below_new (w.alloc (.cells (dimV xs) 35)) (.cells (dimV ys) 35)
     replace h_rxs := h_rxs.below bn
     replace bw := below_two bw bn
     clear bn
     have h_rz := rowA_new ((w.alloc (.cells (dimV xs) 35)).alloc (.cells (dimV ys) 35)) 35 #[.int .i64 0, .int .i64 0, .int .i64 0, .int .i64 0, .int .i64 0, .int .i64 0, .int .i64 0]
     have bn := below_new ((w.alloc (.cells (dimV xs) 35)).alloc (.cells (dimV ys) 35)) (.cells #[.int .i64 0, .int .i64 0, .int .i64 0, .int .i64 0, .int .i64 0, .int .i64 0, .int .i64 0] 35)
     replace h_rxs := h_rxs.below bn
     replace h_rys := h_rys.below bn
     replace bw := below_two bw bn
     clear bn
     simp only [World.size_alloc] at h_rys h_rz
     go_enter Tryz.func57, Tryz.ntmps57
     have HI_xs := Lib.hid h_rxs.inV
     go_wp2_with (refine wpList_loadV (by rfl) 35 _ (by rfl) _ _ (by rfl) _ (by assumption) (by assumption) ?_)
     clear HI_xs
     generalize ((w.alloc (.cells (dimV xs) 35)).alloc (.cells (dimV ys) 35)).alloc (.cells #[.int .i64 0, .int .i64 0, .int .i64 0, .int .i64 0, .int .i64 0, .int .i64 0, .int .i64 0] 35) = w1 at *
     obtain ⟨q_z, eg⟩ : ∃ g, g = w.heap.size + 1 + 1 := ⟨_, rfl⟩
     have hqz : Hid (w.heap.size ≤ q_z) := by show _ ≤ _; omega
     rw [← eg] at h_rz ⊢
     have ez := eg
     clear eg
     obtain ⟨q_ys, eg⟩ : ∃ g, g = w.heap.size + 1 := ⟨_, rfl⟩
     have hqys : Hid (w.heap.size ≤ q_ys ∧ q_ys ≠ q_z) := by constructor <;> omega
     rw [← eg] at h_rys ⊢
     have e_ys := eg
     clear eg
     obtain ⟨q_xs, eg⟩ : ∃ g, g = w.heap.size := ⟨_, rfl⟩
     have hqxs : Hid (w.heap.size ≤ q_xs ∧ q_xs ≠ q_z) := by constructor <;> omega
     rw [← eg] at h_rxs ⊢
     have e_xs := eg
     clear eg
     have hne_xs_ys : Hid (q_xs ≠ q_ys) := by show _ ≠ _; omega
     clear ez e_xs e_ys
     refine (dGood_c HX_xs.out H64_xs.out true Hga.out).mono ?_
     rintro e w2 ⟨rfl, bn⟩
     replace h_rxs := h_rxs.below bn
     replace h_rys := h_rys.below bn
     replace h_rz := h_rz.below bn
     replace bw := below_two bw bn
     clear bn
     have HI_ys := Lib.hid h_rys.inV
     go_wp2_with (refine wpList_loadV (by rfl) 35 _ (by rfl) _ _ (by rfl) _ (by assumption) (by assumption) ?_)
     clear HI_ys
     refine (dGood_c HX_ys.out H64_ys.out true Hgb.out).mono ?_
     rintro e w3 ⟨rfl, bn⟩
     replace h_rxs := h_rxs.below bn
     replace h_rys := h_rys.below bn
     replace h_rz := h_rz.below bn
     replace bw := below_two bw bn
     clear bn
     have HI_ys := Lib.hid h_rys.inV
     go_wp2_with (refine wpList_loadV (by rfl) 35 _ (by rfl) _ _ (by rfl) _ (by assumption) (by assumption) ?_)
     clear HI_ys
     go_loopw [20] (fun iv wr => ∃ i : Nat, i ≤ 7 ∧ iv = .int .i64 (i : Int) ∧ Hid (RowA wr q_xs 35 (dimV (addTo xs ys n i))) ∧ Hid (RowA wr q_z 35 #[.int .i64 0, .int .i64 0, .int .i64 0, .int .i64 0, .int .i64 0, .int .i64 0, .int .i64 0]) ∧ Hid (Below w.heap.size w wr)) (fun iv _ => 7 - (intOf iv).toNat)
     · exact ⟨0, by decide, rfl, by rw [addTo_zero (by rw [HX_xs.out, HX_ys.out])]; exact h_rxs, h_rz, bw⟩
     · obtain ⟨i, hi, rfl, hA, hB, hb⟩ := hrel
       clear h_rxs h_rys h_rz bw
       by_cases h7 : i < 7
       · have hidx := fun W => index_dim HX_ys.out i h7 W
         have hr1 := good_at Hga.out (i := i) (by rw [HX_xs.out]; exact h7)
         have hr2 := good_at Hgb.out (i := i) (by rw [HX_ys.out]; exact h7)
         obtain ⟨p, hp⟩ : ∃ p, n * ys.getD i 0 = p := ⟨_, rfl⟩
         have hpb := times_bound HN.out hr2 hp
         have hwp : wrap64 (n * ys.getD i 0) = p := by rw [hp]; exact IntWalk.wrap64_in p ⟨by omega, by omega⟩
         have hwq : IntKind.i64.wrap (n * ys.getD i 0) = p := by rw [hp, IntKind.wrap_i64]; omega
         have HS := Lib.hid (hA.out.setInt i (xs.getD i 0 + p))
         rw [← hp, addTo_step (by rw [HX_xs.out]; exact h7) (by rw [HX_ys.out]; exact h7), hp] at HS
         have c0 := hA.out.int (i := i) (by rw [len_addTo, HX_xs.out, HX_ys.out]; omega)
         rw [addTo_at (by rw [HX_xs.out]; exact h7) (by rw [HX_ys.out]; exact h7)] at c0
         have f0 := hA.out.free i
         have HF := Lib.hid (hB.out.far hqxs.out.2 i (.int .i64 (xs.getD i 0 + p)))
         have HB := Lib.hid (hb.out.setCell (p := ⟨q_xs, i, none⟩) hqxs.out.1 (.int .i64 (xs.getD i 0 + p)))
         generalize xs.getD i 0 = x at *
         generalize ys.getD i 0 = y at *
         clear hA hB hb hp hr2
         obtain ⟨hr1, hr2⟩ := hr1
         obtain ⟨hpb1, hpb2⟩ := hpb
         go_wp2
         exact ⟨⟨i + 1, by omega, by simp, HS, HF, HB⟩, by simp [intOf]; omega⟩
       · obtain rfl : i = 7 := by omega
         rw [addTo_all HX_xs.out HX_ys.out] at hA
         have h_rxs := hA.out
         have h_rz := hB.out
         have bw := hb.out
         clear hA hB hb h7
         have HL : Hid ((addN xs ys n).length = 7) := len_addN HX_xs.out HX_ys.out
         have HI64 : Hid (I64 (addN xs ys n)) := addN_i64 Hga.out Hgb.out HN.out
         have HM := Lib.hid (many7 HL.out)
         have HI_xs := Lib.hid h_rxs.inV
         go_wp2_with (refine wpList_loadV (by rfl) 35 _ (by rfl) _ _ (by rfl) _ (by assumption) (by assumption) ?_)
         clear HI_xs
         by_cases gz : goodD (addN xs ys n) = true
         · have Hgz := Lib.hid gz
           clear gz
           refine (dGood_c HL.out HI64.out true Hgz.out).mono ?_
           rintro e w41 ⟨rfl, bn⟩
           replace h_rxs := h_rxs.below bn
           replace h_rz := h_rz.below bn
           replace bw := below_two bw bn
           clear bn
           obtain ⟨rfl, rfl⟩ : addN xs ys n = R ∧ 0 = E := by have h := HR.out; rw [mayD, if_pos Hgz.out] at h; simpa using h
           have HZ : Hid ((dimV (addN xs ys n)).size = 7) := size_dimV HL.out
           have HU := Lib.hid (fits7 HL.out)
           have HM_r := Lib.hid (many7 HL.out)
           have HZr := Lib.hid h_rz
           have HF := Lib.hid (h_rz.fill (V' := dimV (addN xs ys n)))
           have HB := Lib.hid (below_fillRow bw hqz.out (dimV (addN xs ys n)))
           have HI_xs := Lib.hid h_rxs.inV
           go_wp2_with (first | (refine wpList_loadV (by rfl) 35 _ (by rfl) _ _ (by rfl) _ (by assumption) (by assumption) ?_) | (refine wpList_storeV (by rfl) 35 _ _ (by rfl) _ (by rfl) _ (by rfl) _ _ (by assumption) (by assumption) ?_))
           refine bodyPost_ret (results_mixed rfl _ _ _ 35 (dimV (addN xs ys n)) (0, 0) _ (.int .i64 0) rfl rfl HF.out Tryz.underlying35 rfl (size_info HZ.out)) rfl ?_
           exact ⟨rfl, HB.out⟩
         · have Hgz : Hid (goodD (addN xs ys n) = false) := by show _ = _; simpa using gz
           clear gz
           refine (dGood_c HL.out HI64.out false Hgz.out).mono ?_
           rintro e w41 ⟨rfl, bn⟩
           replace h_rxs := h_rxs.below bn
           replace h_rz := h_rz.below bn
           replace bw := below_two bw bn
           clear bn
           obtain ⟨rfl, rfl⟩ : dim0 = R ∧ 2 = E := by have h := HR.out; rw [mayD, if_neg (by rw [Hgz.out]; decide)] at h; simpa using h
           clear HL HM
           have HL : Hid (dim0.length = 7) := rfl
           have HZ : Hid ((dimV dim0).size = 7) := size_dimV HL.out
           have HU := Lib.hid (fits7 HL.out)
           have HM_r := Lib.hid (many7 HL.out)
           have HZr := Lib.hid h_rz
           have HF := Lib.hid (h_rz.fill (V' := dimV dim0))
           have HB := Lib.hid (below_fillRow bw hqz.out (dimV dim0))
           go_wp2_with (refine wpList_storeV (by rfl) 35 _ _ (by rfl) _ (by rfl) _ (by rfl) _ _ (by assumption) (by assumption) ?_)
           refine bodyPost_ret (results_mixed rfl _ _ _ 35 (dimV dim0) (0, 0) _ (.int .i64 2) rfl rfl HF.out Tryz.underlying35 rfl (size_info HZ.out)) rfl ?_
           exact ⟨rfl, HB.out⟩
   · rw [if_neg (fun h => gb h.2)] at hR
     have Hga := Lib.hid ga
     have Hgb : Hid (goodD ys = false) := by show _ = _; simpa using gb
     clear ga gb
     have bw := bel_refl w
     have h_rxs := rowA_new w 35 (dimV xs)
     have bn := below_new w (.cells (dimV xs) 35)
     replace bw := below_two bw bn
     clear bn
     have h_rys := rowA_new (w.alloc (.cells (dimV xs) 35)) 35 (dimV ys)
     have bn := below_new (w.alloc (.cells (dimV xs) 35)) (.cells (dimV ys) 35)
     replace h_rxs := h_rxs.below bn
     replace bw := below_two bw bn
     clear bn
     have h_rz := rowA_new ((w.alloc (.cells (dimV xs) 35)).alloc (.cells (dimV ys) 35)) 35 #[.int .i64 0, .int .i64 0, .int .i64 0, .int .i64 0, .int .i64 0, .int .i64 0, .int .i64 0]
     have bn := below_new ((w.alloc (.cells (dimV xs) 35)).alloc (.cells (dimV ys) 35)) (.cells #[.int .i64 0, .int .i64 0, .int .i64 0, .int .i64 0, .int .i64 0, .int .i64 0, .int .i64 0] 35)
     replace h_rxs := h_rxs.below bn
     replace h_rys := h_rys.below bn
     replace bw := below_two bw bn
     clear bn
     simp only [World.size_alloc] at h_rys h_rz
     go_enter Tryz.func57, Tryz.ntmps57
     have HI_xs := Lib.hid h_rxs.inV
     go_wp2_with (refine wpList_loadV (by rfl) 35 _ (by rfl) _ _ (by rfl) _ (by assumption) (by assumption) ?_)
     clear HI_xs
     generalize ((w.alloc (.cells (dimV xs) 35)).alloc (.cells (dimV ys) 35)).alloc (.cells #[.int .i64 0, .int .i64 0, .int .i64 0, .int .i64 0, .int .i64 0, .int .i64 0, .int .i64 0] 35) = w1 at *
     obtain ⟨q_z, eg⟩ : ∃ g, g = w.heap.size + 1 + 1 := ⟨_, rfl⟩
     have hqz : Hid (w.heap.size ≤ q_z) := by show _ ≤ _; omega
     rw [← eg] at h_rz ⊢
     have ez := eg
     clear eg
     obtain ⟨q_ys, eg⟩ : ∃ g, g = w.heap.size + 1 := ⟨_, rfl⟩
     have hqys : Hid (w.heap.size ≤ q_ys ∧ q_ys ≠ q_z) := by constructor <;> omega
     rw [← eg] at h_rys ⊢
     have e_ys := eg
     clear eg
     obtain ⟨q_xs, eg⟩ : ∃ g, g = w.heap.size := ⟨_, rfl⟩
     have hqxs : Hid (w.heap.size ≤ q_xs ∧ q_xs ≠ q_z) := by constructor <;> omega
     rw [← eg] at h_rxs ⊢
     have e_xs := eg
     clear eg
     have hne_xs_ys : Hid (q_xs ≠ q_ys) := by show _ ≠ _; omega
     clear ez e_xs e_ys
     refine (dGood_c HX_xs.out H64_xs.out true Hga.out).mono ?_
     rintro e w2 ⟨rfl, bn⟩
     replace h_rxs := h_rxs.below bn
     replace h_rys := h_rys.below bn
     replace h_rz := h_rz.below bn
     replace bw := below_two bw bn
     clear bn
     have HI_ys := Lib.hid h_rys.inV
     go_wp2_with (refine wpList_loadV (by rfl) 35 _ (by rfl) _ _ (by rfl) _ (by assumption) (by assumption) ?_)
     clear HI_ys
     refine (dGood_c HX_ys.out H64_ys.out false Hgb.out).mono ?_
     rintro e w3 ⟨rfl, bn⟩
     replace h_rxs := h_rxs.below bn
     replace h_rys := h_rys.below bn
     replace h_rz := h_rz.below bn
     replace bw := below_two bw bn
     clear bn
     obtain ⟨rfl, rfl⟩ : dim0 = R ∧ 1 = E := by simpa using hR
     have HL : Hid (dim0.length = 7) := rfl
     have HZ : Hid ((dimV dim0).size = 7) := size_dimV HL.out
     have HU := Lib.hid (fits7 HL.out)
     have HM_r := Lib.hid (many7 HL.out)
     have HZr := Lib.hid h_rz
     have HF := Lib.hid (h_rz.fill (V' := dimV dim0))
     have HB := Lib.hid (below_fillRow bw hqz.out (dimV dim0))
     go_wp2_with (refine wpList_storeV (by rfl) 35 _ _ (by rfl) _ (by rfl) _ (by rfl) _ _ (by assumption) (by assumption) ?_)
     refine bodyPost_ret (results_mixed rfl _ _ _ 35 (dimV dim0) (0, 0) _ (.int .i64 1) rfl rfl HF.out Tryz.underlying35 rfl (size_info HZ.out)) rfl ?_
     exact ⟨rfl, HB.out⟩
 · rw [if_neg (fun h => ga h.1)] at hR
   have Hga : Hid (goodD xs = false) := by show _ = _; simpa using ga
   clear ga
   have bw := bel_refl w
   have h_rxs := rowA_new w 35 (dimV xs)
   have bn := below_new w (.cells (dimV xs) 35)
   replace bw := below_two bw bn
   clear bn
   have h_rys := rowA_new (w.alloc (.cells (dimV xs) 35)) 35 (dimV ys)
   have bn := below_new (w.alloc (.cells (dimV xs) 35)) (.cells (dimV ys) 35)
   replace h_rxs := h_rxs.below bn
   replace bw := below_two bw bn
   clear bn
   have h_rz := rowA_new ((w.alloc (.cells (dimV xs) 35)).alloc (.cells (dimV ys) 35)) 35 #[.int .i64 0, .int .i64 0, .int .i64 0, .int .i64 0, .int .i64 0, .int .i64 0, .int .i64 0]
   have bn := below_new ((w.alloc (.cells (dimV xs) 35)).alloc (.cells (dimV ys) 35)) (.cells #[.int .i64 0, .int .i64 0, .int .i64 0, .int .i64 0, .int .i64 0, .int .i64 0, .int .i64 0] 35)
   replace h_rxs := h_rxs.below bn
   replace h_rys := h_rys.below bn
   replace bw := below_two bw bn
   clear bn
   simp only [World.size_alloc] at h_rys h_rz
   go_enter Tryz.func57, Tryz.ntmps57
   have HI_xs := Lib.hid h_rxs.inV
   go_wp2_with (refine wpList_loadV (by rfl) 35 _ (by rfl) _ _ (by rfl) _ (by assumption) (by assumption) ?_)
   clear HI_xs
   generalize ((w.alloc (.cells (dimV xs) 35)).alloc (.cells (dimV ys) 35)).alloc (.cells #[.int .i64 0, .int .i64 0, .int .i64 0, .int .i64 0, .int .i64 0, .int .i64 0, .int .i64 0] 35) = w1 at *
   obtain ⟨q_z, eg⟩ : ∃ g, g = w.heap.size + 1 + 1 := ⟨_, rfl⟩
   have hqz : Hid (w.heap.size ≤ q_z) := by show _ ≤ _; omega
   rw [← eg] at h_rz ⊢
   have ez := eg
   clear eg
   obtain ⟨q_ys, eg⟩ : ∃ g, g = w.heap.size + 1 := ⟨_, rfl⟩
   have hqys : Hid (w.heap.size ≤ q_ys ∧ q_ys ≠ q_z) := by constructor <;> omega
   rw [← eg] at h_rys ⊢
   have e_ys := eg
   clear eg
   obtain ⟨q_xs, eg⟩ : ∃ g, g = w.heap.size := ⟨_, rfl⟩
   have hqxs : Hid (w.heap.size ≤ q_xs ∧ q_xs ≠ q_z) := by constructor <;> omega
   rw [← eg] at h_rxs ⊢
   have e_xs := eg
   clear eg
   have hne_xs_ys : Hid (q_xs ≠ q_ys) := by show _ ≠ _; omega
   clear ez e_xs e_ys
   refine (dGood_c HX_xs.out H64_xs.out false Hga.out).mono ?_
   rintro e w2 ⟨rfl, bn⟩
   replace h_rxs := h_rxs.below bn
   replace h_rys := h_rys.below bn
   replace h_rz := h_rz.below bn
   replace bw := below_two bw bn
   clear bn
   obtain ⟨rfl, rfl⟩ : dim0 = R ∧ 1 = E := by simpa using hR
   have HL : Hid (dim0.length = 7) := rfl
   have HZ : Hid ((dimV dim0).size = 7) := size_dimV HL.out
   have HU := Lib.hid (fits7 HL.out)
   have HM_r := Lib.hid (many7 HL.out)
   have HZr := Lib.hid h_rz
   have HF := Lib.hid (h_rz.fill (V' := dimV dim0))
   have HB := Lib.hid (below_fillRow bw hqz.out (dimV dim0))
   go_wp2_with (refine wpList_storeV (by rfl) 35 _ _ (by rfl) _ (by rfl) _ (by rfl) _ _ (by assumption) (by assumption) ?_)
   refine bodyPost_ret (results_mixed rfl _ _ _ 35 (dimV dim0) (0, 0) _ (.int .i64 1) rfl rfl HF.out Tryz.underlying35 rfl (size_info HZ.out)) rfl ?_
   exact ⟨rfl, HB.out⟩
theorem mayD_len {zs R : List Int} {E : Int} (h : mayD zs = (R, E)) (hz : zs.length = 7) : R.length = 7 := by
 unfold mayD at h
 split at h
 · obtain ⟨rfl, _⟩ := Prod.mk.inj h; exact hz
 · obtain ⟨rfl, _⟩ := Prod.mk.inj h; rfl
theorem mulD_len {R : List Int} {E : Int} (h : mulD xs ys = (R, E)) (hx : xs.length = 7) (hy : ys.length = 7) : R.length = 7 := by
 unfold mulD at h
 split at h
 · exact mayD_len h (by rw [List.length_zipWith, hx, hy]; rfl)
 · obtain ⟨rfl, _⟩ := Prod.mk.inj h; rfl
theorem powD_len {R : List Int} {E n : Int} (h : powD xs n = (R, E)) (hx : xs.length = 7) : R.length = 7 := by
 unfold powD at h
 split at h
 · exact mayD_len h (by rw [List.length_map, hx])
 · obtain ⟨rfl, _⟩ := Prod.mk.inj h; rfl
theorem mulD_with {R : List Int} {E : Int} (hx : xs.length = 7) (hy : ys.length = 7) (h : mulD xs ys = (R, E)) : withD xs ys 1 = (R, E) := by
 have e : addN xs ys 1 = List.zipWith (· + ·) xs ys := by unfold addN; congr 1; funext x y; omega
 unfold withD; rw [e]; exact h
theorem dim0_i64 : I64 dim0 := by unfold I64 dim0; decide
theorem mayD_same {zs us : List Int} (h : goodD zs = goodD us) (h2 : goodD us = true → zs = us) : mayD zs = mayD us := by
 unfold mayD
 by_cases g : goodD us = true
 · rw [h2 g]
 · rw [if_neg g, if_neg (by rw [h]; exact g)]
theorem pow_mayD {n : Int} (h : goodD xs = true) : mayD (xs.map fun x => x * clampE 201 n) = mayD (xs.map (· * n)) := by
 have hc : clampE 201 n = max (-201) (min n 201) := rfl
 rw [hc]
 have hx := goodD_iff.1 h
 refine mayD_same ?_ fun hg => ?_
 · unfold goodD
   rw [List.all_map, List.all_map]
   clear h
   rw [Bool.eq_iff_iff, List.all_eq_true, List.all_eq_true]
   constructor
   · intro h x m; have := h x m; simp only [Function.comp] at this ⊢; rw [← (pow_clamp (hx x m)).1]; exact this
   · intro h x m; have := h x m; simp only [Function.comp] at this ⊢; rw [(pow_clamp (hx x m)).1]; exact this
 · refine List.map_congr_left fun x m => (pow_clamp (hx x m)).2 ?_
   unfold goodD at hg
   rw [List.all_map, List.all_eq_true] at hg
   exact hg x m
theorem powD_with {R : List Int} {E n : Int} (hx : xs.length = 7) (h : powD xs n = (R, E)) : withD dim0 xs (clampE 201 n) = (R, E) := by
 have e : addN dim0 xs (clampE 201 n) = xs.map fun x => x * clampE 201 n := by
  obtain ⟨a, b, c, d, e, f, g, rfl⟩ := len7 hx
  unfold addN dim0
  simp [Int.mul_comm]
 have hz : goodD dim0 = true := by decide
 unfold withD
 rw [← h, e]
 unfold powD
 by_cases g : goodD xs = true
 · rw [if_pos ⟨hz, g⟩, if_pos g, pow_mayD g]
 · rw [if_neg (fun h => g h.2), if_neg g]
set_option maxHeartbeats 4000000 in
set_option maxRecDepth 100000 in
theorem dMul_c (hx_xs : xs.length = 7) (h64_xs : I64 xs) (hx_ys : ys.length = 7) (h64_ys : I64 ys) (R : List Int) (E : Int) (hR : mulD xs ys = (R, E)) :
 Calls Tryz.prog 25 #[.agg (dimV xs), .agg (dimV ys)] w fun e w' => e = .returned (.tuple #[.agg (dimV R), .int .i64 E]) ∧ Below w.heap.size w w' := by
 have HX_xs := Lib.hid hx_xs
 have H64_xs := Lib.hid h64_xs
 have HM_xs := Lib.hid (many7 hx_xs)
 clear hx_xs h64_xs
 have HX_ys := Lib.hid hx_ys
 have H64_ys := Lib.hid h64_ys
 have HM_ys := Lib.hid (many7 hx_ys)
 clear hx_ys h64_ys
 have bw := bel_refl w
 have h_rxs := rowA_new w 35 (dimV xs)
 have bn := below_new w (.cells (dimV xs) 35)
 replace bw := below_two bw bn
 clear bn
 have h_rys := rowA_new (w.alloc (.cells (dimV xs) 35)) 35 (dimV ys)
 have bn := below_new (w.alloc (.cells (dimV xs) 35)) (.cells (dimV ys) 35)
 replace h_rxs := h_rxs.below bn
 replace bw := below_two bw bn
 clear bn
 have h_rz := rowA_new ((w.alloc (.cells (dimV xs) 35)).alloc (.cells (dimV ys) 35)) 35 #[.int .i64 0, .int .i64 0, .int .i64 0, .int .i64 0, .int .i64 0, .int .i64 0, .int .i64 0]
 have bn := below_new ((w.alloc (.cells (dimV xs) 35)).alloc (.cells (dimV ys) 35)) (.cells #[.int .i64 0, .int .i64 0, .int .i64 0, .int .i64 0, .int .i64 0, .int .i64 0, .int .i64 0] 35)
 replace h_rxs := h_rxs.below bn
 replace h_rys := h_rys.below bn
 replace bw := below_two bw bn
 clear bn
 simp only [World.size_alloc] at h_rys h_rz
 go_enter Tryz.func25, Tryz.ntmps25
 have HI_xs := Lib.hid h_rxs.inV
 have HI_ys := Lib.hid h_rys.inV
 go_wp2_with (refine wpList_loadV (by rfl) 35 _ (by rfl) _ _ (by rfl) _ (by assumption) (by assumption) ?_)
 clear HI_xs HI_ys
 generalize ((w.alloc (.cells (dimV xs) 35)).alloc (.cells (dimV ys) 35)).alloc (.cells #[.int .i64 0, .int .i64 0, .int .i64 0, .int .i64 0, .int .i64 0, .int .i64 0, .int .i64 0] 35) = w1 at *
 obtain ⟨q_z, eg⟩ : ∃ g, g = w.heap.size + 1 + 1 := ⟨_, rfl⟩
 have hqz : Hid (w.heap.size ≤ q_z) := by show _ ≤ _; omega
 rw [← eg] at h_rz ⊢
 have ez := eg
 clear eg
 obtain ⟨q_ys, eg⟩ : ∃ g, g = w.heap.size + 1 := ⟨_, rfl⟩
 have hqys : Hid (w.heap.size ≤ q_ys ∧ q_ys ≠ q_z) := by constructor <;> omega
 rw [← eg] at h_rys ⊢
 have e_ys := eg
 clear eg
 obtain ⟨q_xs, eg⟩ : ∃ g, g = w.heap.size := ⟨_, rfl⟩
 have hqxs : Hid (w.heap.size ≤ q_xs ∧ q_xs ≠ q_z) := by constructor <;> omega
 rw [← eg] at h_rxs ⊢
 have e_xs := eg
 clear eg
 have hne_xs_ys : Hid (q_xs ≠ q_ys) := by show _ ≠ _; omega
 clear ez e_xs e_ys
 have HL : Hid (R.length = 7) := mulD_len hR HX_xs.out HX_ys.out
 have HR := Lib.hid hR
 clear hR
 refine (dWith_c HX_xs.out H64_xs.out HX_ys.out H64_ys.out (1) (by decide) R E (mulD_with HX_xs.out HX_ys.out HR.out)).mono ?_
 rintro e w2 ⟨rfl, bn⟩
 replace h_rxs := h_rxs.below bn
 replace h_rys := h_rys.below bn
 replace h_rz := h_rz.below bn
 replace bw := below_two bw bn
 clear bn
 have HZ : Hid ((dimV R).size = 7) := size_dimV HL.out
 have HU := Lib.hid (fits7 HL.out)
 have HM_r := Lib.hid (many7 HL.out)
 have HZr := Lib.hid h_rz
 have HF := Lib.hid (h_rz.fill (V' := dimV R))
 have HB := Lib.hid (below_fillRow bw hqz.out (dimV R))
 go_wp2_with (refine wpList_storeV (by rfl) 35 _ _ (by rfl) _ (by rfl) _ (by rfl) _ _ (by assumption) (by assumption) ?_)
 refine bodyPost_ret (results_mixed rfl _ _ _ 35 (dimV R) (0, 0) _ (.int .i64 E) rfl rfl HF.out Tryz.underlying35 rfl (size_info HZ.out)) rfl ?_
 exact ⟨rfl, HB.out⟩
set_option maxHeartbeats 4000000 in
set_option maxRecDepth 100000 in
theorem dPow_c (hx_xs : xs.length = 7) (h64_xs : I64 xs) (n : Int) (n0 : -9223372036854775808 ≤ n) (n1 : n ≤ 9223372036854775807) (R : List Int) (E : Int) (hR : powD xs n = (R, E)) :
 Calls Tryz.prog 28 #[.agg (dimV xs), .int .i64 n] w fun e w' => e = .returned (.tuple #[.agg (dimV R), .int .i64 E]) ∧ Below w.heap.size w w' := by
 have hx7 := hx_xs
 have HX_xs := Lib.hid hx_xs
 have H64_xs := Lib.hid h64_xs
 have HM_xs := Lib.hid (many7 hx_xs)
 clear hx_xs h64_xs
 have HL : Hid (R.length = 7) := powD_len hR hx7
 have HR := Lib.hid hR
 have HN : Hid (-201 ≤ clampE 201 n ∧ clampE 201 n ≤ 201) := by constructor <;> (unfold clampE; omega)
 have HN0 := Lib.hid n0
 have HN1 := Lib.hid n1
 clear hR n0 n1
 clear hx7
 have bw := bel_refl w
 have h_rxs := rowA_new w 35 (dimV xs)
 have bn := below_new w (.cells (dimV xs) 35)
 replace bw := below_two bw bn
 clear bn
 have h_rz := rowA_new (w.alloc (.cells (dimV xs) 35)) 35 #[.int .i64 0, .int .i64 0, .int .i64 0, .int .i64 0, .int .i64 0, .int .i64 0, .int .i64 0]
 have bn := below_new (w.alloc (.cells (dimV xs) 35)) (.cells #[.int .i64 0, .int .i64 0, .int .i64 0, .int .i64 0, .int .i64 0, .int .i64 0, .int .i64 0] 35)
 replace h_rxs := h_rxs.below bn
 replace bw := below_two bw bn
 clear bn
 simp only [World.size_alloc] at h_rz
 go_enter Tryz.func28, Tryz.ntmps28
 go_wp2_with fail
 generalize (w.alloc (.cells (dimV xs) 35)).alloc (.cells #[.int .i64 0, .int .i64 0, .int .i64 0, .int .i64 0, .int .i64 0, .int .i64 0, .int .i64 0] 35) = w1 at *
 obtain ⟨q_z, eg⟩ : ∃ g, g = w.heap.size + 1 := ⟨_, rfl⟩
 have hqz : Hid (w.heap.size ≤ q_z) := by show _ ≤ _; omega
 rw [← eg] at h_rz ⊢
 have ez := eg
 clear eg
 obtain ⟨q_xs, eg⟩ : ∃ g, g = w.heap.size := ⟨_, rfl⟩
 have hqxs : Hid (w.heap.size ≤ q_xs ∧ q_xs ≠ q_z) := by constructor <;> omega
 rw [← eg] at h_rxs ⊢
 have e_xs := eg
 clear eg
 clear ez e_xs
 generalize w1 = wS at *
 refine region_freex 7 2 6 [6, 7, 8, 9, 10, 11, 12] ?aF2 (fun wx => Below wS.heap.size wS wx) (fun k vv wx => match k with
  | 0 => vv = .agg (dimV dim0)
  | 1 => vv = .agg (dimV xs)
  | 2 => vv = .int .i64 n
  | 3 => vv = .int .i64 (clampE 201 n)
  | 4 => vv = .tuple #[.agg (dimV R), .int .i64 E]
  | 5 => vv = .agg (dimV R)
  | _ => vv = .int .i64 E)
  (fun k => false) (by kernel_rfl) ?haF2 rfl (by kernel_rfl) (by kernel_rfl) (by decide) rfl (by kernel_rfl) (by kernel_rfl) ?hyx2 (fun _ _ _ _ _ h => h) ?hSb2 ?hPb2 ?hS2 ?hop2 ?hfin2
 case haF2 =>
  intro vals
  simp only [fillAll, List.getElem?_cons_zero, List.getElem?_cons_succ, Act.put, List.setIfInBounds_toArray, List.set_cons_zero, List.set_cons_succ]
  exact rfl
 case hyx2 =>
  intro vals wr hS hd o ho
  have d4 : vals 4 = _ := hd 4 (by decide) (by decide)
  cases ho
  try dsimp only
  rw [d4]
  exact ⟨rfl, _, fun _ => rfl, rfl⟩
 case hSb2 => exact fun wx w2 hb hS => below_two hS hb
 case hPb2 =>
  intro k v wa wb hb h
  match k, h with
  | 0, h => exact h
  | 1, h => exact h
  | 2, h => exact h
  | 3, h => exact h
  | 4, h => exact h
  | 5, h => exact h
  | _ + 6, h => exact h
 case hS2 => exact (Below.refl _ _).drew
 case hop2 =>
  refine .cons (k := 0) (.plain rfl ?_) (.cons (k := 1) (.plain rfl ?_) (.cons (k := 2) (.plain rfl ?_) (.cons (k := 3) (.plain rfl ?_) (.cons (k := 4) (.plain rfl ?_) (.cons (k := 5) (.plain rfl ?_) (.cons (k := 6) (.plain rfl ?_) (.nil)))))))
  all_goals intro vals wr hS hd KC hK
  all_goals (show Oper.wp _ _ _ _ _ _; dsimp only)
  · go_simp
    refine hK _ _ rfl (Below.refl _ _) (by first | rfl | simp) (fun h => by cases h)
  · refine wp_loadV 35 _ rfl _ _ rfl (dimV xs) (Lib.hid (h_rxs.below hS).inV) (Lib.hid HM_xs.out) ?_
    refine hK _ _ rfl (Below.refl _ _) (by first | rfl | simp) (fun h => by cases h)
  · go_simp
    refine hK _ _ rfl (Below.refl _ _) (by first | rfl | simp) (fun h => by cases h)
  · have d2 : vals 2 = _ := hd 2 (by decide +kernel)
    rw [d2]
    go_simp
    go_at_call 64
    with_reducible refine (dClamp_c n 201 (by decide) (by decide) HN0.out HN1.out).mono ?_
    rintro e w2 ⟨rfl, rfl⟩
    refine hK _ _ rfl (Below.refl _ _) rfl (fun h => by cases h)
  · have d0 : vals 0 = _ := hd 0 (by decide +kernel)
    have d1 : vals 1 = _ := hd 1 (by decide +kernel)
    have d3 : vals 3 = _ := hd 3 (by decide +kernel)
    rw [d0, d1, d3]
    go_simp
    go_at_call 57
    with_reducible refine (dWith_c rfl dim0_i64 HX_xs.out H64_xs.out (clampE 201 n) HN.out R E (powD_with HX_xs.out HR.out)).mono ?_
    rintro e w2 ⟨rfl, bn_r⟩
    refine hK _ _ rfl bn_r rfl (fun h => by cases h)
  · have d4 : vals 4 = _ := hd 4 (by decide +kernel)
    rw [d4]
    go_simp
    refine hK _ _ rfl (Below.refl _ _) rfl (fun h => by cases h)
  · have d4 : vals 4 = _ := hd 4 (by decide +kernel)
    rw [d4]
    go_simp
    refine hK _ _ rfl (Below.refl _ _) rfl (fun h => by cases h)
 case hfin2 =>
  intro vals wr hS hP hne
  have ez_5 : vals 5 = _ := hP 5 (by decide)
  have ez_6 : vals 6 = _ := hP 6 (by decide)
  have h_rz := h_rz.below hS
  have bw := below_two bw hS
  have HZ : Hid ((dimV R).size = 7) := size_dimV HL.out
  have HU := Lib.hid (fits7 HL.out)
  have HM_r := Lib.hid (many7 HL.out)
  have HZr := Lib.hid h_rz
  have HF := Lib.hid (h_rz.fill (V' := dimV R))
  have HB := Lib.hid (below_fillRow bw hqz.out (dimV R))
  try dsimp only
  rw [ez_5, ez_6]
  refine wpAny_ready (rs := [7]) (by kernel_rfl) (by simp) (AllReady.cons rfl (fun KC hK => ?_) AllReady.nil)
  refine wp_storeV 35 _ _ rfl _ rfl _ rfl _ _ HZr HU ?_
  refine hK _ _ ?_
  clear hK KC
  try dsimp only [Act.put]
  refine wpAny_ready (rs := [8]) (by kernel_rfl) (by simp) (AllReady.cons rfl (fun KC hK => ?_) AllReady.nil)
  go_simp
  refine hK _ _ ?_
  clear hK KC
  refine wpAny_done (by kernel_rfl) ?_ _
  go_wp2
  refine bodyPost_ret (results_mixed rfl _ _ _ 35 (dimV R) (0, 0) _ (.int .i64 E) rfl rfl HF.out Tryz.underlying35 rfl (size_info HZ.out)) rfl ?_
  exact ⟨rfl, HB.out⟩
end
end Go.Proofs.YtohokfbohdoijaaGreatDoor

/- What the reference of layer 11 answers (Good, may, Mul, Pow), as contracts over memory. Condition: seven exponents. -/
namespace Go.Proofs.YtohokfbohdoijaaGreatDoor
open Go.RowKit Limb
set_option linter.unusedVariables false
theorem good_step {xs : List Int} {i : Nat} (h : i < xs.length) : goodD (xs.take (i + 1)) = (goodD (xs.take i) && goodE (xs.getD i 0)) := by
 have e : xs.getD i 0 = xs[i] := by simp [List.getD_eq_getElem?_getD, h]
 rw [e]
 unfold goodD
 rw [List.take_succ_eq_append_getElem h, List.all_append]
 simp
theorem good_not {xs : List Int} {i : Nat} (h : i < xs.length) (hx : xs.getD i 0 < -200 ∨ 200 < xs.getD i 0) : goodD xs = false := by
 rw [Bool.eq_false_iff]
 intro hg
 have e : xs.getD i 0 = xs[i] := by simp [List.getD_eq_getElem?_getD, h]
 have := goodD_iff.1 hg _ (List.getElem_mem (n := i) h)
 rw [e] at hx
 omega
section
variable {w : World} {xs ys : List Int}
set_option maxHeartbeats 4000000 in
set_option maxRecDepth 100000 in
theorem refDGood_c (hx : xs.length = 7) (v : Bool) (hv : goodD xs = v) :
 Calls Tryz.prog 56 #[.agg (dimV xs)] w fun e w' => e = .returned (.bool v) ∧ Below w.heap.size w w' := by
 have HV := Lib.hid hv
 clear hv
 have b0 := below_new w (.cells (dimV xs) 35)
 have h_rx := rowA_new w 35 (dimV xs)
 have HB := Lib.hid b0
 have HX := Lib.hid hx
 clear b0 hx
 go_enter Tryz.func56, Tryz.ntmps56
 go_wp2_with fail
 generalize w.alloc (.cells (dimV xs) 35) = w1 at *
 obtain ⟨q_x, eg⟩ : ∃ g, g = w.heap.size := ⟨_, rfl⟩
 rw [← eg] at h_rx ⊢
 clear eg
 go_loopw [3] (fun iv wr => ∃ i : Nat, i ≤ 7 ∧ iv = .int .i64 (i : Int) ∧ Hid (goodD (xs.take i) = true) ∧ w1 = wr) (fun iv _ => 7 - (intOf iv).toNat)
 · exact ⟨0, by decide, rfl, by show goodD _ = true; rw [List.take_zero]; rfl, rfl⟩
 · obtain ⟨i, hi, rfl, hg, rfl⟩ := hrel
   by_cases h7 : i < 7
   · have c0 := h_rx.int (i := i) (by rw [HX.out]; exact h7)
     have hs := good_step (xs := xs) (i := i) (by rw [HX.out]; exact h7)
     have hn := good_not (xs := xs) (i := i) (by rw [HX.out]; exact h7)
     rw [hg.out, Bool.true_and] at hs
     have hs := Lib.hid hs
     have hn := Lib.hid hn
     generalize xs.getD i 0 = x at *
     clear h_rx
     by_cases k1 : x < -200
     · have hf := hn.out (.inl k1)
       rw [HV.out] at hf
       subst hf
       go_wp2
       go_ret
       exact ⟨rfl, HB.out⟩
     · by_cases k2 : 200 < x
       · have hf := hn.out (.inr k2)
         rw [HV.out] at hf
         subst hf
         go_wp2
         go_ret
         exact ⟨rfl, HB.out⟩
       · have hs2 : Hid (goodD (xs.take (i + 1)) = true) := by show _ = _; rw [hs.out]; exact goodE_iff.2 (by omega)
         clear hs hn hg
         go_wp2
         exact ⟨⟨i + 1, by omega, by simp, hs2, trivial⟩, by simp [intOf]; omega⟩
   · obtain rfl : i = 7 := by omega
     have hf := hg.out
     rw [List.take_of_length_le (by rw [HX.out]; decide), HV.out] at hf
     subst hf
     clear h_rx hg
     go_wp2
     go_ret
     exact ⟨rfl, HB.out⟩
end
end Go.Proofs.YtohokfbohdoijaaGreatDoor

/- Units in memory: a unit as a value, the table of units: a struct of four cells (not yet made, or made), and the map; what stays. No condition. -/
namespace Go.Proofs.YtohokfbohdoijaaGreatDoor
open Go.RowKit Limb
set_option linter.unusedVariables false
def uL (s : Bool) (A : Option Addr) (n c : Nat) (B : Option Addr) (m d : Nat) (xs : List Int) : List Value := .bool s :: .slice A n c :: .slice B m d :: xs.map (Value.int .i64)
def uV (s : Bool) (A : Option Addr) (n c : Nat) (B : Option Addr) (m d : Nat) (xs : List Int) : Array Value := (uL s A n c B m d xs).toArray
theorem size_uV {s : Bool} {A : Option Addr} {n c : Nat} {B : Option Addr} {m d : Nat} {xs : List Int} (h : xs.length = 7) : (uV s A n c B m d xs).size = 10 := by simp [uV, uL, h]
theorem uV_one {s : Bool} {A : Option Addr} {n c : Nat} {B : Option Addr} {m d : Nat} {xs : List Int} : ∀ v ∈ uV s A n c B m d xs, v.oneCell' = true := by
 intro v hv
 simp only [uV, uL, List.mem_toArray, List.mem_cons, List.mem_map] at hv
 rcases hv with rfl | rfl | rfl | ⟨x, _, rfl⟩ <;> rfl
theorem size10 : (Tryz.prog.info? 37).map (·.size) = some 10 := by kernel_rfl
theorem many10 {V : Array Value} (h : V.size = 10) : Many Tryz.prog 37 V.size := ⟨by rw [h]; exact size10, _, Tryz.underlying37, rfl⟩
theorem size3 : (Tryz.prog.info? 33).map (·.size) = some 3 := by kernel_rfl
def UV (w : World) (v : Array Value) (o : Option Rat) (xs : List Int) : Prop :=
 ∃ A n c B m d, v = uV (sg (oTop o)) A n c B m d xs ∧ QT w A n c B m d o ∧ xs.length = 7
theorem UV.below {w w' : World} {v : Array Value} {o : Option Rat} {xs : List Int} (h : UV w v o xs) (hb : Below w.heap.size w w') : UV w' v o xs := by
 obtain ⟨A, n, c, B, m, d, e, hq, hx⟩ := h
 exact ⟨A, n, c, B, m, d, e, hq.below hb, hx⟩
theorem UV.drew {w : World} {v : Array Value} {o : Option Rat} {xs : List Int} (h : UV w v o xs) : UV w.drew v o xs := h.below (Below.refl _ _).drew
def zU : Array Value := uV false none 0 0 none 0 0 dimZ
theorem zU_uv (w : World) : UV w zU none dimZ := ⟨none, 0, 0, none, 0, 0, rfl, qt_none w 0 0, rfl⟩
def oF : Option UQ → Option Rat
 | some u => some u.1
 | none => none
def oD : Option UQ → List Int
 | some u => u.2
 | none => dimZ
def UO (w : World) (v : Array Value) (o : Option UQ) : Prop := UV w v (oF o) (oD o)
theorem UO.below {w w' : World} {v : Array Value} {o : Option UQ} (h : UO w v o) (hb : Below w.heap.size w w') : UO w' v o := UV.below h hb
theorem UV.size {w : World} {v : Array Value} {o : Option Rat} {xs : List Int} (h : UV w v o xs) : v.size = 10 ∧ ∀ x ∈ v, x.oneCell' = true := by
 obtain ⟨A, n, c, B, m, d, rfl, _, hx⟩ := h
 exact ⟨size_uV hx, uV_one⟩
theorem UV.len {w : World} {v : Array Value} {o : Option Rat} {xs : List Int} (h : UV w v o xs) : xs.length = 7 := by
 obtain ⟨A, n, c, B, m, d, rfl, _, hx⟩ := h
 exact hx
/-! ### the map -/
def NB (k : List Nat) : Lit := .string (k.map UInt8.ofNat)
theorem NB_inj {a b : List Nat} (ha : Bytes a) (hb : Bytes b) (h : NB a = NB b) : a = b := by
 unfold NB at h
 injection h with h
 exact strOf_inj ha hb (by unfold Limb.strOf; rw [h])
theorem NB_key (k : List Nat) : Go.WideAt.IsKeyLit (NB k) := trivial
def heldR (v : Value) : Option (DataW Value × List MemPlace) := some (.held v, [])
def MapU (w : World) (b : Nat) (M : Tb) : Prop := ∃ D : DataW Value, w.ownsMap Tryz.prog 9 heldR b M.length D ∧ TbOk M ∧
 (∀ k, Bytes k → (M.lookup k = none → Maps.has D (NB k) = false) ∧ ∀ u, M.lookup k = some u → Maps.has D (NB k) = true ∧ ∃ v, (∀ z, D.atKey (NB k) z = .held (.agg v)) ∧ UV w v (some u.1) u.2) ∧
 (strKeys D).Perm (M.map fun p => p.1.map UInt8.ofNat)
theorem MapU.lt {w : World} {b : Nat} {M : Tb} (h : MapU w b M) : b < w.heap.size := by obtain ⟨D, h1, _⟩ := h; exact h1.lt
theorem MapU.ok {w : World} {b : Nat} {M : Tb} (h : MapU w b M) : TbOk M := by obtain ⟨D, _, h1, _⟩ := h; exact h1
theorem ownsMap_of_eq {H : Type} {P : Program} {k : TypeId} {R : Value → Option (DataW H × List MemPlace)} {w w' : World} {b n : Nat} {D : DataW H} (h : w.ownsMap P k R b n D) (e : w'.heap[b]? = w.heap[b]?) : w'.ownsMap P k R b n D := by
 obtain ⟨es, clock, hb, F, hs, hD⟩ := h
 exact ⟨es, clock, e.trans hb, F, hs, hD⟩
theorem MapU.below {w w' : World} {b : Nat} {M : Tb} (h : MapU w b M) (hb : Below w.heap.size w w') : MapU w' b M := by
 obtain ⟨D, h1, h2, h3, h4⟩ := h
 refine ⟨D, ownsMap_of_eq h1 (hb.block b h1.lt), h2, fun k hk => ⟨(h3 k hk).1, fun u hu => ?_⟩, h4⟩
 obtain ⟨a, v, e, hv⟩ := (h3 k hk).2 u hu
 exact ⟨a, v, e, hv.below hb⟩
theorem MapU.drew {w : World} {b : Nat} {M : Tb} (h : MapU w b M) : MapU w.drew b M := h.below (Below.refl _ _).drew
theorem mapU_new (w : World) : MapU (w.alloc (.map #[] 0)) w.heap.size [] :=
 ⟨.map [], World.ownsMap_made w _ _ _, ⟨List.nodup_nil, by simp⟩, fun k _ => ⟨fun _ => rfl, fun u h => by cases h⟩, List.Perm.refl _⟩
theorem str_und : Tryz.prog.underlying 9 = some .string := by kernel_rfl
theorem keyed : Maps.Keyed Tryz.prog 9 := Maps.string_keyed str_und
theorem key_of {k : List Nat} (h : k.length ≤ 1000000) : keyOf Tryz.prog 9 (.string (Limb.strOf k)) = some (NB k) := by
 rw [WideMaps.keyOf_string_mk str_und (by rw [size_strOf]; unfold maxLen; omega)]
 rfl
theorem key_str {s : ByteArray} (h : s.size ≤ 1000000) : keyOf Tryz.prog 9 (.string s) = some (NB (bytesOf s)) := by
 have := key_of (k := bytesOf s) (by rw [length_bytesOf]; exact h)
 rwa [strOf_bytesOf] at this
theorem unit_zero (w : World) : (zeroValue 37).run Tryz.prog w = .ok (.agg zU) w := by kernel_rfl
theorem MapU.look {w : World} {b : Nat} {M : Tb} (h : MapU w b M) (key : Value) (k : List Nat) (hk : Bytes k) (hkey : keyOf Tryz.prog 9 key = some (NB k)) :
 ∃ v, (Instr.lookup 93 (.map (some b)) key true).run Tryz.prog w = .ok (.tuple #[.agg v, .bool (M.lookup k).isSome]) w ∧ UO w v (M.lookup k) := by
 obtain ⟨D, h1, h2, h3, h4⟩ := h
 obtain ⟨v, ps, hrun, hR⟩ := h1.look_ok keyed (t := 93) Tryz.underlying93 (unit_zero w) (zd := .held (.agg zU)) (zp := []) rfl hkey
 have hv : DataW.held v = D.atKey (NB k) (.held (.agg zU)) := (Prod.mk.inj (Option.some.inj hR)).1
 cases e : M.lookup k with
 | none =>
  have hh := (h3 k hk).1 e
  rw [Maps.atKey_of_not_has hh] at hv
  injection hv with hv
  subst hv
  rw [hh] at hrun
  exact ⟨zU, hrun, zU_uv w⟩
 | some u =>
  obtain ⟨hh, v', e2, hu⟩ := (h3 k hk).2 u e
  rw [e2] at hv
  injection hv with hv
  subst hv
  rw [hh] at hrun
  exact ⟨v', hrun, hu⟩
theorem strKeys_put {D : DataW Value} {k : Lit} {d : DataW Value} (hm : Maps.IsMap D) (h : Maps.has D k = false) : (strKeys (D.put k d)).Perm (Go.strOf k :: strKeys D) := by
 obtain ⟨es, rfl⟩ := hm
 have e : es.filter (fun p => !p.1.sameKey k) = es := List.filter_eq_self.2 fun p hp => by
  rw [Maps.has_eq, List.any_eq_false] at h
  simpa using h p hp
 show ((DataW.insert (k, d) (es.filter fun p => !p.1.sameKey k)).map fun p => Go.strOf p.1).Perm _
 rw [e]
 exact (WideShapes.insert_perm (k, d) es).map (fun p => Go.strOf p.1)
theorem MapU.put {w w' : World} {b : Nat} {M : Tb} (h : MapU w b M) {D : DataW Value} (hD : w.ownsMap Tryz.prog 9 heldR b M.length D) {k : List Nat} (hk : Bytes k) {u : UQ} (hu : okU u) (e : M.lookup k = none) {v : Array Value} (hv : UV w v (some u.1) u.2)
 (h' : w'.ownsMap Tryz.prog 9 heldR b (M.length + 1) (D.put (NB k) (.held (.agg v)))) (hst : ∀ v o xs, UV w v o xs → UV w' v o xs) : MapU w' b ((k, u) :: M) := by
 obtain ⟨D2, h1, h2, h3, h4⟩ := h
 have eD : D = D2 := by
  obtain ⟨es, c, a1, a2, a3, a4⟩ := hD
  obtain ⟨es2, c2, b1, b2, b3, b4⟩ := h1
  rw [a1] at b1
  cases b1
  rw [a4, b4]
 subst eD
 refine ⟨_, h', h2.put hk hu e, fun k2 hk2 => ?_, ?_⟩
 · rw [List.lookup_cons]
   by_cases e2 : k2 = k
   · subst e2
     simp only [beq_self_eq_true]
     refine ⟨fun h => (nomatch h), fun u2 h => ?_⟩
     cases h
     exact ⟨Maps.has_put_same h1.isMap (NB_key _) _, v, fun z => Maps.atKey_put_same h1.isMap (NB_key _) _ _, hst _ _ _ hv⟩
   · have hne : NB k2 ≠ NB k := fun h => e2 (NB_inj hk2 hk h)
     have : (k2 == k) = false := by simp [e2]
     rw [this]
     refine ⟨fun h => (Maps.has_put_other hne _).trans ((h3 k2 hk2).1 h), fun u2 h => ?_⟩
     obtain ⟨a, v2, a2, a3⟩ := (h3 k2 hk2).2 u2 h
     exact ⟨(Maps.has_put_other hne _).trans a, v2, fun z => (Maps.atKey_put_other hne _ _).trans (a2 z), hst _ _ _ a3⟩
 · rw [List.map_cons]
   exact (strKeys_put h1.isMap ((h3 k hk).1 e)).trans (List.Perm.cons _ h4)
structure Cs (w w' : World) : Prop where
 size : w.heap.size ≤ w'.heap.size
 stay : ∀ (g : Nat) (V : Array Value) (T : TypeId) (f : Nat × Nat), w.heap[g]? = some (.cells V T f) → w'.heap[g]? = some (.cells V T f)
theorem cell_block {w : World} {g k : Nat} {v : Value} (h : w.cell? ⟨g, k, none⟩ = some v) : ∃ V T f, w.heap[g]? = some (.cells V T f) ∧ V[k]? = some v := by
 unfold World.cell? at h
 cases e : w.heap[g]? with
 | none => simp [e] at h
 | some o =>
  cases o with
  | cells V T f => exact ⟨V, T, f, rfl, by simpa [e] using h⟩
  | _ => simp [e] at h
theorem cell_of_block {w : World} {g k : Nat} {V : Array Value} {T : TypeId} {f : Nat × Nat} (h : w.heap[g]? = some (.cells V T f)) : w.cell? ⟨g, k, none⟩ = V[k]? := by simp [World.cell?, h]
theorem Cs.cell {w w' : World} (h : Cs w w') {g k : Nat} {v : Value} (e : w.cell? ⟨g, k, none⟩ = some v) : w'.cell? ⟨g, k, none⟩ = some v := by
 obtain ⟨V, T, f, e1, e2⟩ := cell_block e
 rw [cell_of_block (h.stay g V T f e1)]; exact e2
theorem RowA.cs {w w' : World} (h : Cs w w') {g : Nat} {T : TypeId} {V : Array Value} (r : RowA w g T V) : RowA w' g T V := h.stay _ _ _ _ r
theorem InV.cs {w w' : World} (h : Cs w w') {g o : Nat} {V : Array Value} (r : InV w g o V) : InV w' g o V := fun j v hv => h.cell (r j v hv)
theorem IsN.cs {w w' : World} (h : Cs w w') {A : Option Addr} {n : Nat} {xs : List Nat} (hn : IsN w A n xs) : IsN w' A n xs := by
 refine ⟨hn.1, hn.2.1, fun h0 => ?_⟩
 obtain ⟨b, o, e, hlt, hc⟩ := hn.2.2 h0
 exact ⟨b, o, e, Nat.lt_of_lt_of_le hlt h.size, fun j hj => h.cell (hc j hj)⟩
theorem NN.cs {w w' : World} (h : Cs w w') {A : Option Addr} {n c : Nat} {xs : List Nat} {a L : Nat} (hn : NN w A n c xs a L) : NN w' A n c xs a L := ⟨hn.isN.cs h, hn.val, hn.cap, hn.le⟩
theorem QQ.cs {w w' : World} (h : Cs w w') {s : Bool} {A : Option Addr} {n c : Nat} {xs : List Nat} {B : Option Addr} {m d : Nat} {ys : List Nat} {o : Option Rat} {L : Nat} (hq : QQ w s A n c xs B m d ys o L) : QQ w' s A n c xs B m d ys o L :=
 ⟨⟨hq.top.nn.cs h, hq.top.sgn⟩, hq.bot.cs h, hq.rd⟩
theorem UV.cs {w w' : World} (h : Cs w w') {v : Array Value} {o : Option Rat} {xs : List Int} (hq : UV w v o xs) : UV w' v o xs := by
 obtain ⟨A, n, c, C, m, d, e, hq, hx⟩ := hq
 exact ⟨A, n, c, C, m, d, e, hq.cs h, hx⟩
theorem MapU.store {w : World} {b : Nat} {M : Tb} (h : MapU w b M) (hn : M.length ≤ 1000000) (key : Value) (k : List Nat) (hk : Bytes k) (hkey : keyOf Tryz.prog 9 key = some (NB k)) {u : UQ} (hu : okU u) (e : M.lookup k = none) {v : Array Value} (hv : UV w v (some u.1) u.2) :
 ∃ w', (Instr.mapUpdate 93 (.map (some b)) key (.agg v)).run Tryz.prog w = .ok () w' ∧ MapU w' b ((k, u) :: M) ∧ Cs w w' ∧ w.grownBy w' (some b) := by
 have h0 := h
 obtain ⟨D, h1, _⟩ := h
 obtain ⟨w', hrun, h2, h3⟩ := h1.update keyed (t := 93) Tryz.underlying93 (by unfold maxLen; omega) hkey (val := .agg v) (d := .held (.agg v)) (ps := []) rfl
 have hcs : Cs w w' := ⟨h3.size, fun g V T f eg => by
  obtain ⟨es, c, hb, _⟩ := h1
  have hlt : g < w.heap.size := by
   rcases Nat.lt_or_ge g w.heap.size with h | h
   · exact h
   · rw [Array.getElem?_eq_none h] at eg; cases eg
  have hne : some g ≠ some b := by
   intro e; injection e with e; subst e
   rw [hb] at eg; cases eg
  exact (h3.block g hlt hne).trans eg⟩
 exact ⟨w', hrun, h0.put h1 hk hu e hv h2 (fun _ _ _ h => h.cs hcs), hcs, h3⟩
/-! ### the table -/
abbrev tabV (d : Int) (m : Option Nat) : Array Value := #[.int .u32 d, .int .i32 0, .int .u32 0, .map m]
def TabF (w : World) (tb : Nat) : Prop := RowA w tb 95 (tabV 0 none)
def TabM (w : World) (B tb mb : Nat) (M : Tb) : Prop := RowA w tb 95 (tabV 1 (some mb)) ∧ B ≤ tb ∧ B ≤ mb ∧ MapU w mb M
def TabS (w : World) (B tb : Nat) (M : Tb) : Prop := (TabF w tb ∧ B ≤ tb ∧ M = stdU) ∨ ∃ mb, TabM w B tb mb M
theorem TabM.below {w w' : World} {B tb mb : Nat} {M : Tb} (h : TabM w B tb mb M) (hb : Below w.heap.size w w') : TabM w' B tb mb M := ⟨h.1.below hb, h.2.1, h.2.2.1, h.2.2.2.below hb⟩
theorem TabS.below {w w' : World} {B tb : Nat} {M : Tb} (h : TabS w B tb M) (hb : Below w.heap.size w w') : TabS w' B tb M := by
 rcases h with ⟨h1, h2⟩ | ⟨mb, h⟩
 · exact .inl ⟨RowA.below h1 hb, h2⟩
 · exact .inr ⟨mb, h.below hb⟩
theorem TabS.drew {w : World} {B tb : Nat} {M : Tb} (h : TabS w B tb M) : TabS w.drew B tb M := h.below (Below.refl _ _).drew
theorem TabM.s {w : World} {B tb mb : Nat} {M : Tb} (h : TabM w B tb mb M) : TabS w B tb M := .inr ⟨mb, h⟩
theorem TabS.lo {w : World} {B tb : Nat} {M : Tb} (h : TabS w B tb M) : B ≤ tb := by
 rcases h with ⟨_, h, _⟩ | ⟨mb, _, h, _⟩ <;> exact h
theorem TabS.lt {w : World} {B tb : Nat} {M : Tb} (h : TabS w B tb M) : tb < w.heap.size := by
 rcases h with ⟨h, _⟩ | ⟨mb, h, _⟩ <;> exact h.lt
theorem TabS.ok {w : World} {B tb : Nat} {M : Tb} (h : TabS w B tb M) : TbOk M := by
 rcases h with ⟨_, _, rfl⟩ | ⟨mb, _, _, _, h⟩
 · exact stdU_ok
 · exact h.ok
theorem tabF_new (w : World) : TabF (w.alloc (.cells (tabV 0 none) 95)) w.heap.size := rowA_new _ _ _
structure Kw (tb B : Nat) (w w' : World) : Prop where
 bel : Below B w w'
 stay : ∀ g V T f, w.heap[g]? = some (.cells V T f) → (g = tb → ¬ TabF w tb) → w'.heap[g]? = some (.cells V T f)
structure Kp (tb B : Nat) (w w' : World) : Prop extends Kw tb B w w' where
 made : tb < w.heap.size → ¬ TabF w tb → Below w.heap.size w w'
theorem TabF.eq {w w' : World} {tb : Nat} (e : w'.heap[tb]? = w.heap[tb]?) : TabF w' tb ↔ TabF w tb := by unfold TabF RowA; rw [e]
theorem Kw.trans {tb B : Nat} {w w' w2 : World} (h : Kw tb B w w') (k : Kw tb B w' w2) : Kw tb B w w2 := by
 refine ⟨h.bel.trans k.bel, fun g V T f e hg => ?_⟩
 have e2 := h.stay g V T f e hg
 refine k.stay g V T f e2 fun eg => ?_
 subst eg
 rw [TabF.eq (e2.trans e.symm)]
 exact hg rfl
theorem Kp.trans {tb B : Nat} {w w' w2 : World} (h : Kp tb B w w') (k : Kp tb B w' w2) : Kp tb B w w2 := by
 refine ⟨h.toKw.trans k.toKw, fun hl hn => ?_⟩
 have h1 := h.made hl hn
 exact below_two h1 (k.made (Nat.lt_of_lt_of_le hl h1.size) (by rw [TabF.eq (h1.block tb hl)]; exact hn))
theorem Kw.of {tb B : Nat} {w w' : World} (h : Below w.heap.size w w') (hB : B ≤ w.heap.size) : Kw tb B w w' := by
 refine ⟨h.mono hB, fun g V T f e _ => ?_⟩
 have hlt : g < w.heap.size := by
  rcases Nat.lt_or_ge g w.heap.size with h | h
  · exact h
  · rw [Array.getElem?_eq_none h] at e; cases e
 exact (h.block g hlt).trans e
theorem Kp.of {tb B : Nat} {w w' : World} (h : Below w.heap.size w w') (hB : B ≤ w.heap.size) : Kp tb B w w' := ⟨Kw.of h hB, fun _ _ => h⟩
theorem Kp.refl (tb B : Nat) (w : World) : Kp tb B w w := ⟨⟨Below.refl _ _, fun _ _ _ _ e _ => e⟩, fun _ _ => Below.refl _ _⟩
theorem Kw.row {tb B : Nat} {w w' : World} (h : Kw tb B w w') {g : Nat} {T : TypeId} {V : Array Value} (r : RowA w g T V) (hg : g ≠ tb) : RowA w' g T V := h.stay g V T _ r fun e => absurd e hg
theorem Kp.row {tb B : Nat} {w w' : World} (h : Kp tb B w w') {g : Nat} {T : TypeId} {V : Array Value} (r : RowA w g T V) (hg : g ≠ tb) : RowA w' g T V := h.toKw.row r hg
theorem Kw.size {tb B : Nat} {w w' : World} (h : Kw tb B w w') : w.heap.size ≤ w'.heap.size := h.bel.size
theorem Kp.size {tb B : Nat} {w w' : World} (h : Kp tb B w w') : w.heap.size ≤ w'.heap.size := h.bel.size
theorem TabM.notF {w : World} {B tb mb : Nat} {M : Tb} (h : TabM w B tb mb M) : ¬ TabF w tb := by
 intro hf
 have e1 : w.heap[tb]? = _ := hf
 have e2 : w.heap[tb]? = _ := h.1
 rw [e1] at e2
 injection e2 with e2
 injection e2 with e2
 simp at e2
theorem Kp.done {tb B mb : Nat} {w w' : World} {M : Tb} (h : Kp tb B w w') (hM : TabM w B tb mb M) : Below w.heap.size w w' := h.made hM.s.lt hM.notF
theorem IsN.kw {tb B : Nat} {w w' : World} (h : Kw tb B w w') {A : Option Addr} {n a : Nat} (hn : IsN w A n (limbs a)) : IsN w' A n (limbs a) := by
 refine ⟨hn.1, hn.2.1, fun h0 => ?_⟩
 obtain ⟨b, o, e, hlt, hc⟩ := hn.2.2 h0
 have hl := hn.1
 have hlast : lim (limbs a) (n - 1) ≠ 0 := by
  have := (trimmed_iff hn.2.1).1 (by rw [val_limbs])
  rcases this with h | h
  · rw [h] at hl; simp at hl; omega
  · rwa [hl] at h
 obtain ⟨V, T, f, e1, e2⟩ := cell_block (hc (n - 1) (by omega))
 have hg : b = tb → ¬ TabF w tb := by
  rintro rfl hf
  have e3 : w.heap[b]? = _ := hf
  rw [e1] at e3
  injection e3 with e3
  injection e3 with e3
  subst e3
  generalize o + (n - 1) = j at e2
  match j, e2 with
  | 0, e2 => simp at e2; omega
  | 1, e2 => simp at e2
  | 2, e2 => simp at e2; omega
  | 3, e2 => simp at e2
  | j + 4, e2 => simp at e2
 have e3 := h.stay b V T f e1 hg
 exact ⟨b, o, e, Nat.lt_of_lt_of_le hlt h.size, fun j hj => by rw [cell_of_block e3, ← cell_of_block e1]; exact hc j hj⟩
theorem QT.kw {tb B : Nat} {w w' : World} (h : Kw tb B w w') {A : Option Addr} {n c : Nat} {C : Option Addr} {m d : Nat} {o : Option Rat} (hq : QT w A n c C m d o) : QT w' A n c C m d o :=
 ⟨⟨⟨hq.top.nn.isN.kw h, hq.top.nn.val, hq.top.nn.cap, hq.top.nn.le⟩, hq.top.sgn⟩, ⟨hq.bot.isN.kw h, hq.bot.val, hq.bot.cap, hq.bot.le⟩, hq.rd⟩
theorem UV.kw {tb B : Nat} {w w' : World} (h : Kw tb B w w') {v : Array Value} {o : Option Rat} {xs : List Int} (hq : UV w v o xs) : UV w' v o xs := by
 obtain ⟨A, n, c, C, m, d, e, hq, hx⟩ := hq
 exact ⟨A, n, c, C, m, d, e, hq.kw h, hx⟩
theorem UO.kw {tb B : Nat} {w w' : World} (h : Kw tb B w w') {v : Array Value} {o : Option UQ} (hq : UO w v o) : UO w' v o := UV.kw h hq
theorem UV.kp {tb B : Nat} {w w' : World} (h : Kp tb B w w') {v : Array Value} {o : Option Rat} {xs : List Int} (hq : UV w v o xs) : UV w' v o xs := hq.kw h.toKw
theorem QT.kp {tb B : Nat} {w w' : World} (h : Kp tb B w w') {A : Option Addr} {n c : Nat} {C : Option Addr} {m d : Nat} {o : Option Rat} (hq : QT w A n c C m d o) : QT w' A n c C m d o := hq.kw h.toKw
theorem UO.kp {tb B : Nat} {w w' : World} (h : Kp tb B w w') {v : Array Value} {o : Option UQ} (hq : UO w v o) : UO w' v o := hq.kw h.toKw
end Go.Proofs.YtohokfbohdoijaaGreatDoor

/- How an argument that is a unit is opened: a struct of a rational number and seven exponents. No condition. -/
namespace Go.Proofs.YtohokfbohdoijaaGreatDoor
open Go.ChangeShapes Go.WideShapes Go.ChangeAt Go.RowKit Limb
set_option linter.unusedVariables false
theorem cells_dim7 : Tryz.prog.cellsOf 35 = 7 := by kernel_rfl
theorem cells_i64 : Tryz.prog.cellsOf 3 = 1 := by kernel_rfl
theorem cells_unit : Tryz.prog.cellsOf 37 = 10 := by kernel_rfl
section
variable {H : Type} {enc : TypeId × Value → H} {W : World} {sp : Nat → Bool} {held : Bool} {m : Nat} {x : DataW H × List MemPlace}
theorem rat_cells {c0 c1 c2 : Value} (h : DataW.trod enc Tryz.prog W 0 sp held m 33 [c0, c1, c2] = some x) :
 ∃ (s : Bool) (a : Option Addr) (n c : Nat) (xs : List Nat) (b : Option Addr) (m k : Nat) (ys : List Nat), c0 = .bool s ∧ c1 = .slice a n c ∧ c2 = .slice b m k ∧ IsN W a n xs ∧ n ≤ c ∧ c ≤ maxLen ∧ IsN W b m ys ∧ m ≤ k ∧ k ≤ maxLen := by
 obtain ⟨xs, m, rfl, hx, hlen, hxl, hel⟩ := DataW.trod_struct Tryz.underlying33 h
 have h0 : DataW.trod enc Tryz.prog W 0 sp held m 31 ((([c0, c1, c2] : List Value).drop 0).take (Tryz.prog.cellsOf 31)) = xs[0]? := hel 0 _ rfl
 have h1 : DataW.trod enc Tryz.prog W 0 sp held m 29 ((([c0, c1, c2] : List Value).drop 2).take (Tryz.prog.cellsOf 29)) = xs[1]? := hel 1 _ rfl
 rw [cells_int] at h0
 rw [cells_nat] at h1
 have hxl2 : xs.length = 2 := by simpa using hxl
 rw [List.getElem?_eq_getElem (by omega)] at h0 h1
 obtain ⟨ys, m1, e0, hy, hylen, hyl, hyel⟩ := DataW.trod_struct Tryz.underlying31 h0
 have k0 : DataW.trod enc Tryz.prog W 0 sp held m1 4 ((([c0, c1] : List Value).drop 0).take (Tryz.prog.cellsOf 4)) = ys[0]? := hyel 0 _ rfl
 have k1 : DataW.trod enc Tryz.prog W 0 sp held m1 29 ((([c0, c1] : List Value).drop 1).take (Tryz.prog.cellsOf 29)) = ys[1]? := hyel 1 _ rfl
 rw [cells_bool] at k0
 rw [cells_nat] at k1
 have hyl2 : ys.length = 2 := by simpa using hyl
 rw [List.getElem?_eq_getElem (by omega)] at k0 k1
 obtain ⟨b, hb, _⟩ := DataW.trod_bool Tryz.underlying4 k0
 simp at hb
 subst hb
 obtain ⟨a, n, c, zs, rfl, hz, hc, hm⟩ := slice_cell (c := c1) k1
 obtain ⟨a2, n2, k2, zs2, rfl, hz2, hc2, hm2⟩ := slice_cell (c := c2) h1
 exact ⟨b, _, _, _, zs, _, _, _, zs2, rfl, rfl, rfl, hz, hc, hm, hz2, hc2, hm2⟩
theorem dim_cells {cs : List Value} (hl : cs.length = 7) (h : DataW.trod enc Tryz.prog W 0 sp held m 35 cs = some x) :
 ∃ ds : List Int, cs = ds.map (Value.int .i64) ∧ ds.length = 7 ∧ ∀ x ∈ ds, (Lit.int .i64 x).wf = true := by
 obtain ⟨ys, m, rfl, hx, hlen, hxl, hel⟩ := DataW.trod_array Tryz.underlying35 h
 have hone : ∀ i (hi : i < cs.length), ∃ a, cs[i] = .int .i64 a ∧ (Lit.int .i64 a).wf = true := fun i hi => by
  have h0 := hel i (by omega)
  rw [List.getElem?_eq_getElem (by omega), cells_i64] at h0
  obtain ⟨a, ha, _, wa⟩ := DataW.trod_int Tryz.underlying3 h0
  refine ⟨a, ?_, wa⟩
  simp only [Nat.mul_one] at ha
  rw [List.drop_eq_getElem_cons hi, List.take_succ_cons] at ha
  exact (List.cons.inj ha).1
 refine ⟨cs.map fun c => match c with | .int _ q => q | _ => 0, ?_, by rw [List.length_map]; exact hl, fun x hx => ?_⟩
 · rw [List.map_map]
   apply List.ext_getElem
   · simp
   · intro i h1 h2
     obtain ⟨a, ha, _⟩ := hone i h1
     simp only [List.getElem_map, Function.comp]
     rw [ha]
 · obtain ⟨c, hc, rfl⟩ := List.mem_map.1 hx
   obtain ⟨i, hi, rfl⟩ := List.mem_iff_getElem.1 hc
   obtain ⟨a, ha, wa⟩ := hone i hi
   rw [ha]; exact wa
set_option maxRecDepth 100000 in
theorem unit_cells {cs : List Value} (hl : cs.length = 10) (h : DataW.trod enc Tryz.prog W 0 sp held m 37 cs = some x) :
 ∃ (s : Bool) (a : Option Addr) (n c : Nat) (xs : List Nat) (b : Option Addr) (m k : Nat) (ys : List Nat) (ds : List Int), cs = uL s a n c b m k ds ∧ IsN W a n xs ∧ n ≤ c ∧ c ≤ maxLen ∧ IsN W b m ys ∧ m ≤ k ∧ k ≤ maxLen ∧ ds.length = 7 ∧ ∀ x ∈ ds, (Lit.int .i64 x).wf = true := by
 obtain ⟨xs, m, rfl, hx, hlen, hxl, hel⟩ := DataW.trod_struct Tryz.underlying37 h
 have h0 : DataW.trod enc Tryz.prog W 0 sp held m 33 ((cs.drop 0).take (Tryz.prog.cellsOf 33)) = xs[0]? := hel 0 _ rfl
 have h1 : DataW.trod enc Tryz.prog W 0 sp held m 35 ((cs.drop 3).take (Tryz.prog.cellsOf 35)) = xs[1]? := hel 1 _ rfl
 rw [cells_rat] at h0
 rw [cells_dim7] at h1
 have hxl2 : xs.length = 2 := by simpa using hxl
 rw [List.getElem?_eq_getElem (by omega)] at h0 h1
 match cs, hl with
 | c0 :: c1 :: c2 :: r, hl =>
  have hr : r.length = 7 := by simpa using hl
  have e : ((c0 :: c1 :: c2 :: r).drop 3).take 7 = r := by
   show r.take 7 = r
   rw [List.take_of_length_le (by omega)]
  rw [e] at h1
  obtain ⟨s, a, n, c, zs, b, m1, k, ys, rfl, rfl, rfl, q1, q2, q3, q4, q5, q6⟩ := rat_cells (c0 := c0) (c1 := c1) (c2 := c2) h0
  obtain ⟨ds, rfl, hd, hw⟩ := dim_cells hr h1
  exact ⟨s, a, n, c, zs, b, m1, k, ys, ds, rfl, q1, q2, q3, q4, q5, q6, hd, hw⟩
end
set_option maxRecDepth 100000 in
theorem open_unit {H : Type} {enc : TypeId × Value → H} {W : World} {r : Reach} {b0 : Nat} {sp : Nat → Bool} {held : Bool} {v : Value} {d : DataW H} {p : List MemPlace}
 (hok : Value.okWide Tryz.prog W r b0 37 v) (h : DataW.Trod enc Tryz.prog W 0 sp held 37 v d p) :
 ∃ (s : Bool) (a : Option Addr) (n c : Nat) (xs : List Nat) (b : Option Addr) (m k : Nat) (ys : List Nat) (ds : List Int), v = .agg (uV s a n c b m k ds) ∧ IsN W a n xs ∧ n ≤ c ∧ c ≤ maxLen ∧ IsN W b m ys ∧ m ≤ k ∧ k ≤ maxLen ∧ ds.length = 7 ∧ ∀ x ∈ ds, (Lit.int .i64 x).wf = true := by
 obtain ⟨cs, rfl, hsz⟩ := okWide_struct Tryz.underlying37 hok
 rw [cells_unit] at hsz
 obtain ⟨fuel, hf⟩ := h
 have hcl : cs.toList.length = 10 := by simpa using hsz
 obtain ⟨s, a, n, c, zs, b, m1, k, ys, ds, e, q⟩ := unit_cells (cs := cs.toList) hcl hf
 refine ⟨s, a, n, c, zs, b, m1, k, ys, ds, ?_, q⟩
 congr 1
 exact Array.ext' e
end Go.Proofs.YtohokfbohdoijaaGreatDoor

/- What package unit's isLetter, isDigit, nameLength, isName answer, as contracts. No condition. -/
namespace Go.Proofs.YtohokfbohdoijaaGreatDoor
open Go.RowKit Limb
set_option linter.unusedVariables false
theorem uLetter_c (c : Nat) (v : Bool) (hv : isLet c = v) (w : World) : Calls Tryz.prog 106 #[.int .u8 (c : Int)] w fun e w' => e = .returned (.bool v) ∧ w' = w := by
 go_enter Tryz.func106, Tryz.ntmps106
 go_wp2
 all_goals go_ret
 all_goals refine ⟨ret_bool ?_, rfl⟩
 all_goals subst hv
 all_goals unfold isLet
 all_goals grind
theorem uDigit_c (c : Nat) (v : Bool) (hv : isDig c = v) (w : World) : Calls Tryz.prog 107 #[.int .u8 (c : Int)] w fun e w' => e = .returned (.bool v) ∧ w' = w := by
 go_enter Tryz.func107, Tryz.ntmps107
 go_wp2
 all_goals go_ret
 all_goals refine ⟨ret_bool ?_, rfl⟩
 all_goals subst hv
 all_goals unfold isDig
 all_goals grind
set_option maxHeartbeats 1000000 in
set_option maxRecDepth 100000 in
theorem uNameN_c (s : ByteArray) (hs : s.size ≤ 9223372036854775807) (w : World) :
 Calls Tryz.prog 69 #[.string s] w fun e w' => e = .returned (.int .i64 (nameN (bytesOf s) : Int)) ∧ w' = w := by
 have HL := Lib.hid (length_bytesOf s)
 go_enter Tryz.func69, Tryz.ntmps69
 go_wp2
 go_loopw [3] (fun i wr => ∃ k : Nat, i = .int .i64 (k : Int) ∧ k ≤ s.size ∧ RowKit.Hid (k ≤ nameN (bytesOf s)) ∧ wr = w) (fun i _ => s.size - (intOf i).toNat)
 case atStart => exact ⟨0, rfl, Nat.zero_le _, Nat.zero_le _, rfl⟩
 case round =>
  obtain ⟨k, rfl, hk, HK, rfl⟩ := hrel
  by_cases hlt : k < s.size
  · obtain ⟨d, hd⟩ : ∃ d, (s[k]'hlt).toNat = d := ⟨_, rfl⟩
    have hdl : RowKit.Hid (lim (bytesOf s) k = d) := by show _ = _; rw [← byte_at s k hlt, hd]
    have HS : RowKit.Hid (nmAt k d = true → k + 1 ≤ nameN (bytesOf s)) := fun h => name_step HK.out (by rw [HL.out]; exact hlt) (by rw [hdl.out]; exact h)
    have HE : RowKit.Hid (nmAt k d = false → nameN (bytesOf s) = k) := fun h => name_stop HK.out (fun _ => by rw [hdl.out]; exact h)
    clear hdl HK
    go_wp2_with (first | (go_at_call 106; refine (uLetter_c d _ rfl _).mono ?_; rintro e w' ⟨rfl, rfl⟩) | (go_at_call 107; refine (uDigit_c d _ rfl _).mono ?_; rintro e w' ⟨rfl, rfl⟩))
    all_goals have e95 : ((d : Int) == 95) = decide (d = 95) := by rw [Bool.eq_iff_iff]; simp; omega
    all_goals first
     | (refine ⟨⟨k + 1, by go_num, by omega, HS.out ?_, trivial⟩, by simp [intOf]; omega⟩; simp_all [nmAt]; done)
     | (have h0 : nmAt k d = false := by simp_all [nmAt]
        go_ret; exact ⟨by rw [HE.out h0]; rfl, rfl⟩)
  · have HE : RowKit.Hid (nameN (bytesOf s) = k) := name_stop HK.out (fun h => by rw [HL.out] at h; omega)
    have h3 : s.size = k := by omega
    clear hlt HK
    subst h3
    go_wp2
    go_ret
    exact ⟨by rw [HE.out]; rfl, rfl⟩
set_option maxHeartbeats 1000000 in
theorem uIsName_c (s : ByteArray) (hs : s.size ≤ 9223372036854775807) (v : Bool) (hv : isNm (bytesOf s) = v) (w : World) :
 Calls Tryz.prog 39 #[.string s] w fun e w' => e = .returned (.bool v) ∧ w' = w := by
 have HL := Lib.hid (length_bytesOf s)
 have HV := Lib.hid hv
 clear hv
 go_enter Tryz.func39, Tryz.ntmps39
 go_wp2_with (go_at_call 69; refine (uNameN_c s hs _).mono ?_; rintro e w' ⟨rfl, rfl⟩)
 all_goals go_ret
 all_goals refine ⟨ret_bool ?_, rfl⟩
 all_goals rw [← HV.out]; unfold isNm; rw [HL.out]
 all_goals grind
end Go.Proofs.YtohokfbohdoijaaGreatDoor

/- What package unit's of, clone, mayBe answer, as contracts over memory. Condition: seven exponents; sizes of at most so many limbs. -/
namespace Go.Proofs.YtohokfbohdoijaaGreatDoor
open Go.RowKit Limb
set_option linter.unusedVariables false
abbrev z10 : Array Value := #[.bool false, .slice none 0 0, .slice none 0 0, .int .i64 0, .int .i64 0, .int .i64 0, .int .i64 0, .int .i64 0, .int .i64 0, .int .i64 0]
theorem build_unit {s : Bool} {A : Option Addr} {n c : Nat} {B : Option Addr} {m d : Nat} {xs : List Int} (h : xs.length = 7) (W : World) :
 (Instr.build 37 ([(0, .agg #[.bool s, .slice A n c, .slice B m d]), (1, .agg (dimV xs))] : List (Nat × Value)).toArray).run Tryz.prog W = .ok (.agg (uV s A n c B m d xs)) W := by
 obtain ⟨x0, x1, x2, x3, x4, x5, x6, rfl⟩ := len7 h
 kernel_rfl
theorem fits10 {V : Array Value} (h : V.size = 10) (h1 : ∀ v ∈ V, v.oneCell' = true) : Many Tryz.prog 37 V.size ∧ z10.size = V.size ∧ ∀ v ∈ V, v.oneCell' = true := ⟨many10 h, by rw [h]; rfl, h1⟩
theorem many3 (a b c : Value) : Many Tryz.prog 33 (#[a, b, c] : Array Value).size := ⟨size3, _, Tryz.underlying33, rfl⟩
theorem fits3 {s : Bool} {A : Option Addr} {n c : Nat} {B : Option Addr} {m d : Nat} : Many Tryz.prog 33 (#[.bool s, .slice A n c, .slice B m d] : Array Value).size ∧ (#[.bool false, .slice none 0 0, .slice none 0 0] : Array Value).size = (#[.bool s, .slice A n c, .slice B m d] : Array Value).size ∧ ∀ v ∈ (#[.bool s, .slice A n c, .slice B m d] : Array Value), v.oneCell' = true :=
 ⟨many3 _ _ _, rfl, by simp [Value.oneCell']⟩
theorem NN.fillRow {w : World} {A : Option Addr} {n c : Nat} {xs : List Nat} {a L g : Nat} {T : TypeId} {V V' : Array Value} (h : NN w A n c xs a L) (hg : NoLimb w g) (r : RowA w g T V) : NN (w.setRow g V') A n c xs a L := by
 refine ⟨⟨h.isN.1, h.isN.2.1, fun h0 => ?_⟩, h.val, h.cap, h.le⟩
 obtain ⟨b, o, e, hlt, hc⟩ := h.isN.2.2 h0
 have hb : b ≠ g := by
  rintro rfl
  exact hg _ _ (hc 0 h0)
 refine ⟨b, o, e, by rw [setRow_size]; exact hlt, fun j hj => ?_⟩
 have := hc j hj
 unfold World.cell? at this ⊢
 rw [setRow_other w g b V' hb]
 exact this
theorem QQ.fillU {w : World} {s : Bool} {A : Option Addr} {n c : Nat} {xs : List Nat} {B : Option Addr} {m d : Nat} {ys : List Nat} {o : Option Rat} {L g : Nat} {T : TypeId} {V V' : Array Value} (h : QQ w s A n c xs B m d ys o L) (r : RowA w g T V) (hv : ∀ v ∈ V, ∀ x, v ≠ .int .u32 x) : QQ (w.setRow g V') s A n c xs B m d ys o L :=
 ⟨⟨h.top.nn.fillRow (r.noLimb hv) r, h.top.sgn⟩, h.bot.fillRow (r.noLimb hv) r, h.rd⟩
theorem z10_limb : ∀ v ∈ z10, ∀ x, v ≠ .int .u32 x := by intro v hv x e; subst e; simp at hv
set_option maxHeartbeats 4000000 in
set_option maxRecDepth 100000 in
theorem uOf_c (v t : Int) (v0 : -9223372036854775808 ≤ v) (v1 : v ≤ 9223372036854775807) (p : Rat) (hp : (v : Rat) = p) (q : Rat) (hq : scaleR (some p) t = (some q, 0)) (xs : List Int) (hx : xs.length = 7) (w : World) :
 Calls Tryz.prog 43 #[.int .i64 v, .int .i64 t, .agg (dimV xs)] w fun e w' => ∃ V, e = .returned (.agg V) ∧ UV w' V (some q) xs ∧ Below w.heap.size w w' := by
 have HX := Lib.hid hx
 have HQ := Lib.hid hq
 have HM_x := Lib.hid (many7 hx)
 clear hx hq
 have bw := below_new w (.cells (dimV xs) 35)
 have h_rx := rowA_new w 35 (dimV xs)
 have bn := below_new (w.alloc (.cells (dimV xs) 35)) (.cells z10 37)
 have h_rz := rowA_new (w.alloc (.cells (dimV xs) 35)) 37 z10
 replace h_rx := h_rx.below bn
 replace bw := below_two bw bn
 clear bn
 simp only [World.size_alloc] at h_rz
 go_enter Tryz.func43, Tryz.ntmps43
 go_wp2_with fail
 generalize (w.alloc (.cells (dimV xs) 35)).alloc (.cells z10 37) = w1 at *
 refine (rWhole_is v v0 v1 p hp _).mono ?_
 rintro e w2 ⟨A1, n1, c1, B1, m1, d1, rfl, hq1, bn⟩
 replace h_rx := h_rx.below bn
 replace h_rz := h_rz.below bn
 replace bw := below_two bw bn
 clear bn
 go_wp2_with fail
 refine (pScale_c hq1 (by decide) t _ _ HQ.out).mono ?_
 rintro e w3 ⟨A2, n2, c2, B2, m2, d2, rfl, hq2, bn⟩
 replace h_rx := h_rx.below bn
 replace h_rz := h_rz.below bn
 replace bw := below_two bw bn
 clear bn hq1
 have h_ry := rowA_new w3 33 #[.bool (sg (oTop (some q))), .slice A2 n2 c2, .slice B2 m2 d2]
 have bn := below_new w3 (.cells #[.bool (sg (oTop (some q))), .slice A2 n2 c2, .slice B2 m2 d2] 33)
 replace h_rx := h_rx.below bn
 replace h_rz := h_rz.below bn
 replace bw := below_two bw bn
 have hq3 := hq2.below bn
 clear bn hq2
 have HF3 := Lib.hid (fits3 (s := sg (oTop (some q))) (A := A2) (n := n2) (c := c2) (B := B2) (m := m2) (d := d2))
 have HU := Lib.hid (fits10 (size_uV (s := sg (oTop (some q))) (A := A2) (n := n2) (c := c2) (B := B2) (m := m2) (d := d2) HX.out) uV_one)
 have HM3 := Lib.hid (many3 (.bool (sg (oTop (some q)))) (.slice A2 n2 c2) (.slice B2 m2 d2))
 have HB := Lib.hid (build_unit (s := sg (oTop (some q))) (A := A2) (n := n2) (c := c2) (B := B2) (m := m2) (d := d2) HX.out)
 have HI_x := Lib.hid h_rx.inV
 have HI_y := Lib.hid h_ry.inV
 have HZ := Lib.hid h_rz
 have HR := Lib.hid (h_rz.fill (V' := uV (sg (oTop (some q))) A2 n2 c2 B2 m2 d2 xs))
 have HE := Lib.hid (below_fillRow bw (g := w.heap.size + 1) (by omega) (uV (sg (oTop (some q))) A2 n2 c2 B2 m2 d2 xs))
 have hq4 := Lib.hid (hq3.fillU (V' := uV (sg (oTop (some q))) A2 n2 c2 B2 m2 d2 xs) h_rz z10_limb)
 clear h_rx h_ry h_rz bw
 go_wp2_with (first | (refine wpList_loadV (by rfl) _ _ (by rfl) _ _ (by rfl) _ (by assumption) (by assumption) ?_) | (refine wpList_storeNew (by rfl) _ _ _ (by rfl) _ _ _ (by rfl) (by rfl) (by assumption) ?_) | (refine wpList_buildV (by rfl) _ _ (by rfl) _ (by rfl) _ (by assumption) ?_) | (refine wpList_storeV (by rfl) _ _ _ (by rfl) _ (by rfl) _ (by rfl) _ _ (by assumption) (by assumption) ?_))
 refine bodyPost_ret (results_cell_row rfl _ _ _ 37 (uV (sg (oTop (some q))) A2 n2 c2 B2 m2 d2 xs) (0, 0) _ rfl HR.out Tryz.underlying37 rfl (by rw [size_uV HX.out]; exact size10)) rfl ?_
 exact ⟨_, rfl, ⟨A2, n2, c2, B2, m2, d2, rfl, hq4.out, HX.out⟩, HE.out⟩
theorem uV_set1 {s : Bool} {A A' : Option Addr} {n c n' c' : Nat} {B : Option Addr} {m d : Nat} {xs : List Int} : (uV s A n c B m d xs).setIfInBounds 1 (.slice A' n' c') = uV s A' n' c' B m d xs := by simp [uV, uL]
theorem uV_set2 {s : Bool} {A : Option Addr} {n c : Nat} {B B' : Option Addr} {m d m' d' : Nat} {xs : List Int} : (uV s A n c B m d xs).setIfInBounds 2 (.slice B' m' d') = uV s A n c B' m' d' xs := by simp [uV, uL]
theorem uV_limb {s : Bool} {A : Option Addr} {n c : Nat} {B : Option Addr} {m d : Nat} {xs : List Int} : ∀ v ∈ uV s A n c B m d xs, ∀ x, v ≠ .int .u32 x := by
 intro v hv x e
 subst e
 simp [uV, uL] at hv
set_option maxHeartbeats 4000000 in
set_option maxRecDepth 100000 in
theorem uClone_c {w : World} {v : Array Value} {o : Option Rat} {xs : List Int} (hv : UV w v o xs) :
 Calls Tryz.prog 41 #[.agg v] w fun e w' => ∃ V, e = .returned (.agg V) ∧ UV w' V o xs ∧ Below w.heap.size w w' := by
 obtain ⟨A, n, c, B, m, d, rfl, hq, hx⟩ := hv
 have HX := Lib.hid hx
 clear hx
 have h1 := hq.top
 have h2 := hq.bot
 have HRD := Lib.hid hq.rd
 clear hq
 generalize es : sg (oTop o) = s at *
 have bw := below_new w (.cells (uV s A n c B m d xs) 37)
 have h_rx := rowA_new w 37 (uV s A n c B m d xs)
 have bn := below_new (w.alloc (.cells (uV s A n c B m d xs) 37)) (.cells z10 37)
 have h_rz := rowA_new (w.alloc (.cells (uV s A n c B m d xs) 37)) 37 z10
 replace h_rx := h_rx.below bn
 replace bw := below_two bw bn
 clear bn
 simp only [World.size_alloc] at h_rz
 have H2 := Lib.hid h2
 have HS := Lib.hid h1.sgn
 have h1 := h1.nn.below bw
 have g1 : (uV s A n c B m d xs)[1]? = some (.slice A n c) := rfl
 go_enter Tryz.func41, Tryz.ntmps41
 go_wp2_with fail
 generalize (w.alloc (.cells (uV s A n c B m d xs) 37)).alloc (.cells z10 37) = w1 at *
 obtain ⟨q_z, ez⟩ : ∃ g, g = w.heap.size + 1 := ⟨_, rfl⟩
 obtain ⟨q_x, ex⟩ : ∃ g, g = w.heap.size := ⟨_, rfl⟩
 rw [← ez] at h_rz ⊢
 rw [← ex] at h_rx ⊢
 have hne : Hid (q_x ≠ q_z) := by show _ ≠ _; omega
 have hxx : Hid (w.heap.size ≤ q_x ∧ w.heap.size ≤ q_z) := by constructor <;> omega
 clear ez ex h2
 clear g1
 refine (rClone_c h1 (by decide)).mono ?_
 rintro e w2 ⟨A2, n2, c2, rfl, h12, bn⟩
 replace h_rx := h_rx.below bn
 replace h_rz := h_rz.below bn
 replace bw := below_two bw bn
 clear bn h1
 have c1 := h_rx.cell (k := 1) (v := .slice A n c) rfl
 have f1 := h_rx.free 1
 have r2 := Lib.hid (h_rx.set 1 (.slice A2 n2 c2))
 rw [uV_set1] at r2
 have z2 := Lib.hid (h_rz.far hne.out 1 (.slice A2 n2 c2))
 have b2 := Lib.hid (below_set bw hxx.out.1 1 (.slice A2 n2 c2))
 have h13 := Lib.hid (h12.elsewhere (apart_of h12 (h_rx.noLimb uV_limb)) 1 (.slice A2 n2 c2))
 have c2' := Lib.hid (r2.out.cell (k := 2) (v := .slice B m d) rfl)
 clear h_rx h_rz bw h12
 have c2 := c2'.out
 go_wp2_with fail
 clear c1 f1 c2 c2'
 refine (rClone_c (H2.out.below b2.out) (by decide)).mono ?_
 rintro e w3 ⟨B2, m2, d2, rfl, h22, bn⟩
 have h_rx := r2.out.below bn
 have h_rz := z2.out.below bn
 have bw := below_two b2.out bn
 have h13 := h13.out.below bn
 clear bn r2 z2 b2
 have c1 := h_rx.cell (k := 2) (v := .slice B m d) rfl
 have f1 := h_rx.free 2
 have r2 := Lib.hid (h_rx.set 2 (.slice B2 m2 d2))
 rw [uV_set2] at r2
 have z2 := Lib.hid (h_rz.far hne.out 2 (.slice B2 m2 d2))
 have b2 := Lib.hid (below_set bw hxx.out.1 2 (.slice B2 m2 d2))
 have h14 := Lib.hid (h13.elsewhere (apart_of h13 (h_rx.noLimb uV_limb)) 2 (.slice B2 m2 d2))
 have h24 := Lib.hid (h22.elsewhere (apart_of h22 (h_rx.noLimb uV_limb)) 2 (.slice B2 m2 d2))
 clear h_rx h_rz bw h13 h22
 have HIx := Lib.hid r2.out.inV
 have HU := Lib.hid (fits10 (size_uV (s := s) (A := A2) (n := n2) (c := c2) (B := B2) (m := m2) (d := d2) HX.out) uV_one)
 have HM := Lib.hid HU.out.1
 have HR := Lib.hid (z2.out.fill (V' := uV s A2 n2 c2 B2 m2 d2 xs))
 have HE := Lib.hid (below_fillRow b2.out hxx.out.2 (uV s A2 n2 c2 B2 m2 d2 xs))
 have h15 := Lib.hid (h14.out.fillRow (V' := uV s A2 n2 c2 B2 m2 d2 xs) (z2.out.noLimb z10_limb) z2.out)
 have h25 := Lib.hid (h24.out.fillRow (V' := uV s A2 n2 c2 B2 m2 d2 xs) (z2.out.noLimb z10_limb) z2.out)
 go_wp2_with (first | (refine wpList_loadV (by rfl) _ _ (by rfl) _ _ (by rfl) _ (by assumption) (by assumption) ?_) | (refine wpList_storeV (by rfl) _ _ _ (by rfl) _ (by rfl) _ (by rfl) _ _ (by assumption) (by assumption) ?_))
 refine bodyPost_ret (results_cell_row rfl _ _ _ 37 (uV s A2 n2 c2 B2 m2 d2 xs) (0, 0) _ rfl HR.out Tryz.underlying37 rfl (by rw [size_uV HX.out]; exact size10)) rfl ?_
 exact ⟨_, rfl, ⟨A2, n2, c2, B2, m2, d2, by rw [es], by rw [QT, es]; exact ⟨⟨h15.out, HS.out⟩, h25.out, HRD.out⟩, HX.out⟩, HE.out⟩
theorem uV_rat {s : Bool} {A : Option Addr} {n c : Nat} {B : Option Addr} {m d : Nat} {xs : List Int} {w : World} {g : Nat} {T : TypeId} (h : RowA w g T (uV s A n c B m d xs)) : InV w g 0 #[.bool s, .slice A n c, .slice B m d] :=
 h.part fun j v hv => by
  match j, hv with
  | 0, hv => exact hv
  | 1, hv => exact hv
  | 2, hv => exact hv
theorem uV_dim {s : Bool} {A : Option Addr} {n c : Nat} {B : Option Addr} {m d : Nat} {xs : List Int} {w : World} {g : Nat} {T : TypeId} (h : RowA w g T (uV s A n c B m d xs)) : InV w g 3 (dimV xs) :=
 h.part fun j v hv => by
  rw [Nat.add_comm]
  simpa [uV, uL, dimV, ints] using hv
def mayB (o : Option Rat) (xs : List Int) : Bool := decide (0 < cmpR o (some 0)) && goodD xs
theorem mayB_iff {o : Option Rat} {xs : List Int} (hl : xs.length = 7) (hf : ∀ q, o = some q → fitsQ q = true) : mayB o xs = true ↔ ∃ q, o = some q ∧ okU (q, xs) := by
 unfold mayB okU
 rw [Bool.and_eq_true, decide_eq_true_eq]
 cases o with
 | none =>
  constructor
  · rintro ⟨h, _⟩; exact absurd h (by unfold cmpR; decide)
  · rintro ⟨q, h, _⟩; cases h
 | some q =>
  have e : cmpR (some q) (some 0) = cmpQ q 0 := rfl
  rw [e]
  constructor
  · rintro ⟨h, h2⟩
    exact ⟨q, rfl, pos_of_cmp h, hf q rfl, hl, h2⟩
  · rintro ⟨q', h, h1, h2, h3, h4⟩
    cases h
    refine ⟨?_, h4⟩
    rw [cmpQ_gt h1]; decide
set_option maxHeartbeats 4000000 in
set_option maxRecDepth 100000 in
theorem uMay_c {w : World} {s : Bool} {A : Option Addr} {n c : Nat} {az : List Nat} {B : Option Addr} {m d : Nat} {bs : List Nat} {o : Option Rat} {L : Nat} (hx : QQ w s A n c az B m d bs o L) (h1 : L ≤ 1000) (xs : List Int) (hl : xs.length = 7) (h64 : I64 xs) (v : Bool) (hv : mayB o xs = v) :
 Calls Tryz.prog 40 #[.agg (uV s A n c B m d xs)] w fun e w' => e = .returned (.bool v) ∧ Below w.heap.size w w' := by
 have HX := Lib.hid hl
 have H64 := Lib.hid h64
 have HV := Lib.hid hv
 have H1 := Lib.hid h1
 have HM3 := Lib.hid (many3 (.bool s) (.slice A n c) (.slice B m d))
 have HM7 := Lib.hid (many7 hl)
 clear hl h64 hv h1
 have bw := below_new w (.cells (uV s A n c B m d xs) 37)
 have h_rx := rowA_new w 37 (uV s A n c B m d xs)
 have HI := Lib.hid (uV_rat h_rx)
 replace hx := hx.below bw
 go_enter Tryz.func40, Tryz.ntmps40
 go_wp2_with (refine wpList_loadV (by rfl) _ _ (by rfl) _ _ (by rfl) _ (by assumption) (by assumption) ?_)
 clear HI
 generalize w.alloc (.cells (uV s A n c B m d xs) 37) = w1 at *
 obtain ⟨q_x, ex⟩ : ∃ g, g = w.heap.size := ⟨_, rfl⟩
 rw [← ex] at h_rx ⊢
 clear ex
 refine (rSign_c hx H1.out _ rfl).mono ?_
 rintro e w2 ⟨rfl, bn⟩
 replace h_rx := h_rx.below bn
 replace bw := below_two bw bn
 clear bn hx
 have HI := Lib.hid (uV_dim h_rx)
 have HB := Lib.hid bw
 clear bw h_rx
 generalize hC : cmpR o (some 0) = C at *
 have HC := Lib.hid hC
 clear hC
 go_wp2_with (refine wpList_loadV (by rfl) _ _ (by rfl) _ _ (by rfl) _ (by assumption) (by assumption) ?_)
 · refine (dGood_c HX.out H64.out _ rfl).mono ?_
   rintro e w3 ⟨rfl, bn⟩
   have hB := Lib.hid (below_two HB.out bn)
   have hv : Hid (goodD xs = v) := by
    show _ = _
    rw [← HV.out]; unfold mayB; rw [HC.out, decide_eq_true (by assumption)]; rfl
   clear bn HI
   generalize goodD xs = g at *
   have := hv.out
   subst this
   clear hv
   go_wp2_with fail
   all_goals go_ret
   all_goals first | exact ⟨rfl, hB.out⟩ | (refine ⟨ret_bool ?_, hB.out⟩; simp_all)
 · go_ret
   refine ⟨ret_bool ?_, HB.out⟩
   rw [← HV.out]; unfold mayB; rw [HC.out, decide_eq_false (by omega)]; rfl
end Go.Proofs.YtohokfbohdoijaaGreatDoor

/- What package unit's bases and standard answer, as contracts over memory. No condition. -/
namespace Go.Proofs.YtohokfbohdoijaaGreatDoor
open Go.RowKit Limb
set_option linter.unusedVariables false
def basL (b : List Nat × Int × List Int) : List Value := .string (Limb.strOf b.1) :: .int .i64 b.2.1 :: b.2.2.map (Value.int .i64)
def basV (b : List Nat × Int × List Int) : Array Value := (basL b).toArray
def basC : Array Value := (basU.flatMap basL).toArray
theorem flat_at {α β : Type} {f : α → List β} {k : Nat} (d : α) : ∀ {l : List α} {i j : Nat}, (∀ x ∈ l, (f x).length = k) → i < l.length → j < k → (l.flatMap f)[k * i + j]? = (f (l.getD i d))[j]?
 | [], i, j, _, hi, _ => by simp at hi
 | x :: l, 0, j, h, _, hj => by
  rw [List.flatMap_cons, List.getElem?_append_left (by rw [h x (by simp)]; omega)]
  simp
 | x :: l, i + 1, j, h, hi, hj => by
  rw [List.flatMap_cons, List.getElem?_append_right (by rw [h x (by simp)]; rw [Nat.mul_succ]; omega), h x (by simp)]
  rw [show k * (i + 1) + j - k = k * i + j by rw [Nat.mul_succ]; omega, flat_at d (fun y hy => h y (by simp [hy])) (by simpa using hi) hj]
  simp
theorem basU_all : ∀ b ∈ basU, b.2.2.length = 7 := by decide
theorem basC_at (i : Nat) (hi : i < 15) (j : Nat) (hj : j < 9) : basC[9 * i + j]? = (basV (bAt i))[j]? := by
 have := flat_at (f := basL) (k := 9) ([], 0, []) (l := basU) (i := i) (j := j) (fun b hb => by simp [basL, basU_all b hb]) hi hj
 simpa [basC, basV, bAt] using this
theorem size_basV {b : List Nat × Int × List Int} (h : b.2.2.length = 7) : (basV b).size = 9 := by simp [basV, basL, h]
theorem bAt_len : ∀ i, i < 15 → (bAt i).2.2.length = 7 := by decide
theorem basC_in {w : World} {g : Nat} {T : TypeId} (h : RowA w g T basC) (i : Nat) (hi : i < 15) : InV w g (i * 9) (basV (bAt i)) :=
 h.part fun j v hv => by
  have hj : j < 9 := by
   have := (Array.getElem?_eq_some_iff.1 hv).1
   rwa [size_basV (bAt_len i hi)] at this
  rw [Nat.mul_comm, basC_at i hi j hj]; exact hv
set_option maxHeartbeats 4000000 in
set_option maxRecDepth 100000 in
theorem uBases_c (w : World) : Calls Tryz.prog 112 #[] w fun e w' => ∃ g, e = .returned (.slice (some ⟨g, 0, none⟩) 15 15) ∧ RowA w' g 157 basC ∧ Below w.heap.size w w' := by
 go_enter Tryz.func112, Tryz.ntmps112
 go_wp2
 go_ret
 refine ⟨_, rfl, rowA_new w _ basC, below_new w (.cells basC _)⟩
end Go.Proofs.YtohokfbohdoijaaGreatDoor

/- What package unit's standard answers: the table of units as a map. Condition: the table of prefixes reads as it is laid. -/
namespace Go.Proofs.YtohokfbohdoijaaGreatDoor
open Go.RowKit Limb
set_option linter.unusedVariables false
def prefL (p : List Nat × Int) : List Value := [.string (Limb.strOf p.1), .int .i64 p.2]
def prefV (p : List Nat × Int) : Array Value := #[.string (Limb.strOf p.1), .int .i64 p.2]
def prefC : Array Value := (preU.flatMap prefL).toArray
theorem cell_lt {w : World} {g k : Nat} {v : Value} (h : w.cell? ⟨g, k, none⟩ = some v) : g < w.heap.size := by
 obtain ⟨V, T, f, e, _⟩ := cell_block h
 exact (Array.getElem?_eq_some_iff.1 e).1
def UTab (w : World) : Prop := InV w 0 0 prefC
theorem UTab.lt {w : World} (h : UTab w) : 0 < w.heap.size := cell_lt (h 0 (.string (Limb.strOf [])) rfl)
theorem UTab.below {w w' : World} (h : UTab w) (hb : Below w.heap.size w w') : UTab w' := InV.below h h.lt hb
theorem UTab.cs {w w' : World} (h : UTab w) (hc : Cs w w') : UTab w' := InV.cs hc h
theorem pref0 (W : World) : (Instr.index 160 (.agg prefC) (.int .i64 ((0 : Nat) : Int))).run Tryz.prog W = .ok (.agg (prefV (pAt 0))) W := by kernel_rfl
theorem pref1 (W : World) : (Instr.index 160 (.agg prefC) (.int .i64 ((1 : Nat) : Int))).run Tryz.prog W = .ok (.agg (prefV (pAt 1))) W := by kernel_rfl
theorem pref2 (W : World) : (Instr.index 160 (.agg prefC) (.int .i64 ((2 : Nat) : Int))).run Tryz.prog W = .ok (.agg (prefV (pAt 2))) W := by kernel_rfl
theorem pref3 (W : World) : (Instr.index 160 (.agg prefC) (.int .i64 ((3 : Nat) : Int))).run Tryz.prog W = .ok (.agg (prefV (pAt 3))) W := by kernel_rfl
theorem pref4 (W : World) : (Instr.index 160 (.agg prefC) (.int .i64 ((4 : Nat) : Int))).run Tryz.prog W = .ok (.agg (prefV (pAt 4))) W := by kernel_rfl
theorem pref5 (W : World) : (Instr.index 160 (.agg prefC) (.int .i64 ((5 : Nat) : Int))).run Tryz.prog W = .ok (.agg (prefV (pAt 5))) W := by kernel_rfl
theorem pref_at (j : Nat) (hj : j < 6) (W : World) : (Instr.index 160 (.agg prefC) (.int .i64 (j : Int))).run Tryz.prog W = .ok (.agg (prefV (pAt j))) W := by
 have h : j = 0 ∨ j = 1 ∨ j = 2 ∨ j = 3 ∨ j = 4 ∨ j = 5 := by omega
 rcases h with rfl | rfl | rfl | rfl | rfl | rfl
 · exact pref0 W
 · exact pref1 W
 · exact pref2 W
 · exact pref3 W
 · exact pref4 W
 · exact pref5 W
theorem many12 : Many Tryz.prog 160 prefC.size := ⟨by kernel_rfl, _, Tryz.underlying160, rfl⟩
theorem many9 {V : Array Value} (h : V.size = 9) : Many Tryz.prog 157 V.size := ⟨by rw [h]; kernel_rfl, _, Tryz.underlying157, rfl⟩
theorem basV_one {b : List Nat × Int × List Int} : ∀ v ∈ basV b, v.oneCell' = true := by
 intro v hv
 simp only [basV, basL, List.mem_toArray, List.mem_cons, List.mem_map] at hv
 rcases hv with rfl | rfl | ⟨x, _, rfl⟩ <;> rfl
theorem one_cast : ((1 : Int) : Rat) = 1 := rfl
theorem sixty_cast : ((60 : Int) : Rat) = 60 := rfl
theorem hour_cast : ((3600 : Int) : Rat) = 3600 := rfl
theorem fits9 {V : Array Value} (h : V.size = 9) (h1 : ∀ v ∈ V, v.oneCell' = true) : Many Tryz.prog 157 V.size ∧ (#[.string ⟨#[]⟩, .int .i64 0, .int .i64 0, .int .i64 0, .int .i64 0, .int .i64 0, .int .i64 0, .int .i64 0, .int .i64 0] : Array Value).size = V.size ∧ ∀ v ∈ V, v.oneCell' = true := ⟨many9 h, by rw [h]; rfl, h1⟩
def StdF (i j : Nat) : Prop := (pAt j).1.length ≤ 10 ∧ (bAt i).1.length ≤ 10 ∧ (-10 ≤ (pAt j).2 ∧ (pAt j).2 ≤ 10 ∧ -10 ≤ (bAt i).2.1 ∧ (bAt i).2.1 ≤ 10) ∧ scaleR (some 1) ((pAt j).2 + (bAt i).2.1) = (some (rowU (bAt i) (pAt j)).2.1, 0) ∧ okU (rowU (bAt i) (pAt j)).2 ∧ ∀ x ∈ (rowU (bAt i) (pAt j)).1, x < 256
instance (i j : Nat) : Decidable (StdF i j) := by unfold StdF; infer_instance
theorem stdFacts : ∀ i < 15, ∀ j < 6, StdF i j := by decide +kernel
theorem std_len : ∀ i < 15, ∀ j < 6, (stdTo i j).length ≤ 1000000 := by decide +kernel
theorem std_len2 : (stdTo 15 0).length ≤ 1000000 ∧ (([109, 105, 110], ofU 60 0 [0, 0, 1, 0, 0, 0, 0]) :: stdTo 15 0).length ≤ 1000000 := by decide +kernel
set_option maxHeartbeats 4000000 in
set_option maxRecDepth 100000 in
theorem uStandard_c (w : World) (T : UTab w) : Calls Tryz.prog 75 #[] w fun e w' => ∃ mb, e = .returned (.map (some mb)) ∧ w.heap.size ≤ mb ∧ MapU w' mb stdU ∧ Below w.heap.size w w' := by
 have bw := below_new w (.map #[] 0)
 have hm := mapU_new w
 replace T := T.below bw
 have hmk := run_makeMap (P := Tryz.prog) (t := 93) w
 go_enter Tryz.func75, Tryz.ntmps75
 go_wp2_with fail
 generalize w.alloc (.map #[] 0) = w1 at *
 obtain ⟨mb, em⟩ : ∃ g, g = w.heap.size := ⟨_, rfl⟩
 rw [← em] at hm ⊢
 have hmb : Hid (w.heap.size ≤ mb) := by show _ ≤ _; omega
 clear em
 refine (uBases_c w1).mono ?_
 rintro e w2 ⟨qb, rfl, h_rb, bn⟩
 replace hm := hm.below bn
 replace bw := below_two bw bn
 replace T := T.below bn
 clear bn
 go_wp2_with fail
 go_loopw [10] (fun iv wr => ∃ i : Nat, i ≤ 15 ∧ iv = .int .i64 (i : Int) ∧ Hid (MapU wr mb (stdTo i 0)) ∧ Hid (RowA wr qb 157 basC) ∧ Hid (UTab wr) ∧ Hid (Below w.heap.size w wr)) (fun iv _ => 15 - (intOf iv).toNat)
 · exact ⟨0, by decide, rfl, hm, h_rb, T, bw⟩
 · obtain ⟨i, hi, rfl, HM, HR, HT, HB⟩ := hrel
   clear hm h_rb T bw
   by_cases h15 : i < 15
   · have hm := HM.out
     have h_rb := HR.out
     have T := HT.out
     have bw := HB.out
     clear HM HR HT HB
     have HI := Lib.hid (basC_in h_rb i h15)
     have HMb := Lib.hid (many9 (size_basV (bAt_len i h15)))
     have h_rq := rowA_new wr 157 (basV (bAt i))
     have bn := below_new wr (.cells (basV (bAt i)) 157)
     replace hm := hm.below bn
     replace h_rb := h_rb.below bn
     replace T := T.below bn
     replace bw := below_two bw bn
     clear bn
     have HUb := Lib.hid (fits9 (size_basV (bAt_len i h15)) basV_one)
     have HIg : Hid (InV (wr.alloc (.cells (basV (bAt i)) 157)) 0 0 prefC) := T
     have HMg := Lib.hid many12
     go_wp2_with (first | (refine wpList_loadV (by rfl) _ _ (by rfl) _ _ (by rfl) _ (by assumption) (by assumption) ?_) | (refine wpList_storeNew (by rfl) _ _ _ (by rfl) _ _ _ (by rfl) (by rfl) (by assumption) ?_))
     clear HI HIg
     generalize wr.alloc (.cells (basV (bAt i)) 157) = w3 at *
     obtain ⟨qq, eq⟩ : ∃ g, g = wr.heap.size := ⟨_, rfl⟩
     rw [← eq] at h_rq
     rw [← eq]
     clear eq
     go_loopw [15] (fun jv wx => ∃ j : Nat, j ≤ 6 ∧ jv = .int .i64 (j : Int) ∧ Hid (MapU wx mb (stdTo i j)) ∧ Hid (RowA wx qb 157 basC) ∧ Hid (RowA wx qq 157 (basV (bAt i))) ∧ Hid (UTab wx) ∧ Hid (Below w.heap.size w wx)) (fun jv _ => 6 - (intOf jv).toNat)
     · exact ⟨0, by decide, rfl, hm, h_rb, h_rq, T, bw⟩
     · obtain ⟨j, hj, rfl, HM, HR, HQ, HT, HB⟩ := hrel
       clear hm h_rb h_rq T bw
       have hm := HM.out
       have h_rb := HR.out
       have h_rq := HQ.out
       have T := HT.out
       have bw := HB.out
       clear HM HR HQ HT HB
       by_cases h6 : j < 6
       · obtain ⟨SP, hSP⟩ : ∃ x, x = Limb.strOf (pAt j).1 := ⟨_, rfl⟩
         obtain ⟨pt, hpt⟩ : ∃ x, x = (pAt j).2 := ⟨_, rfl⟩
         obtain ⟨SB, hSB⟩ : ∃ x, x = Limb.strOf (bAt i).1 := ⟨_, rfl⟩
         obtain ⟨bt, hbt⟩ : ∃ x, x = (bAt i).2.1 := ⟨_, rfl⟩
         obtain ⟨bd, hbd⟩ : ∃ x, x = (bAt i).2.2 := ⟨_, rfl⟩
         obtain ⟨Q, hq0⟩ : ∃ x, x = (rowU (bAt i) (pAt j)).2.1 := ⟨_, rfl⟩
         have hidx : ∀ W, (Instr.index 160 (.agg prefC) (.int .i64 (j : Int))).run Tryz.prog W = .ok (.agg #[.string SP, .int .i64 pt]) W := by subst hSP hpt; exact fun W => pref_at j h6 W
         have hF := stdFacts i h15 j h6
         have hSz : Hid (SP.size ≤ 10 ∧ SB.size ≤ 10) := by subst hSP hSB; rw [size_strOf, size_strOf]; exact ⟨hF.1, hF.2.1⟩
         have hTb : Hid (-10 ≤ pt ∧ pt ≤ 10 ∧ -10 ≤ bt ∧ bt ≤ 10) := by subst hpt hbt; exact hF.2.2.1
         have hSc : Hid (scaleR (some 1) (pt + bt) = (some Q, 0)) := by subst hpt hbt hq0; exact hF.2.2.2.1
         have hOk : Hid (okU (rowU (bAt i) (pAt j)).2) := hF.2.2.2.2.1
         have hKb : Hid (Bytes (rowU (bAt i) (pAt j)).1) := hF.2.2.2.2.2
         have hKey : Hid (keyOf Tryz.prog 9 (.string (SP ++ SB)) = some (NB (rowU (bAt i) (pAt j)).1)) := by
          subst hSP hSB
          rw [strOf_append]
          exact key_of (by rw [List.length_append]; have := hF.1; have := hF.2.1; omega)
         have hlen : Hid ((stdTo i j).length ≤ 1000000) := std_len i h15 j h6
         have hStep : Hid (stdTo i (j + 1) = rowU (bAt i) (pAt j) :: stdTo i j) := (stdTo_step i h15 j h6).1
         have hNo : Hid ((stdTo i j).lookup (rowU (bAt i) (pAt j)).1 = none) := (stdTo_step i h15 j h6).2
         have hQ : Hid ((rowU (bAt i) (pAt j)).2 = (Q, bd)) := by subst hq0 hbd; rfl
         have HLd : Hid (bd.length = 7) := by subst hbd; exact bAt_len i h15
         have HMd := Lib.hid (many7 HLd.out)
         have gB0 : Hid ((basV (bAt i))[0]? = some (.string SB)) := by subst hSB; rfl
         have gB1 : Hid ((basV (bAt i))[1]? = some (.int .i64 bt)) := by subst hbt; rfl
         have gB2 : Hid (∀ {W : World}, RowA W qq 157 (basV (bAt i)) → InV W qq 2 (dimV bd)) := fun h => h.part fun k v hv => by
          subst hbd
          rw [Nat.add_comm]
          simpa [basV, basL, dimV, ints] using hv
         clear hSP hpt hSB hbt hbd hq0 hF
         have HU2 : Hid (Many Tryz.prog 159 (#[.string SP, .int .i64 pt] : Array Value).size ∧ (#[.string ⟨#[]⟩, .int .i64 0] : Array Value).size = (#[.string SP, .int .i64 pt] : Array Value).size ∧ ∀ v ∈ (#[.string SP, .int .i64 pt] : Array Value), v.oneCell' = true) :=
          ⟨⟨by show _ = some 2; kernel_rfl, _, Tryz.underlying159, rfl⟩, rfl, by simp [Value.oneCell']⟩
         have h_rp := rowA_new wr 159 #[.string SP, .int .i64 pt]
         have bn := below_new wr (.cells #[.string SP, .int .i64 pt] 159)
         replace hm := hm.below bn
         replace h_rb := h_rb.below bn
         replace h_rq := h_rq.below bn
         replace T := T.below bn
         replace bw := below_two bw bn
         clear bn
         go_wp2_with (refine wpList_storeNew (by rfl) _ _ _ (by rfl) _ _ _ (by rfl) (by rfl) (by assumption) ?_)
         generalize wr.alloc (.cells #[.string SP, .int .i64 pt] 159) = wS at *
         obtain ⟨qp, eq⟩ : ∃ g, g = wr.heap.size := ⟨_, rfl⟩
         rw [← eq] at h_rp
         rw [← eq]
         clear eq hidx
         refine region_free 14 1 [18, 19, 20, 21, 22, 23, 24, 25, 26, 27, 28, 29, 30, 31] ?aF1 (fun wx => Below wS.heap.size wS wx) (fun k vv wx => match k with
          | 0 => vv = .map (some mb)
          | 1 => vv = .pointer (some ⟨qp, 0, none⟩)
          | 2 => vv = .string SP
          | 3 => vv = .pointer (some ⟨qq, 0, none⟩)
          | 4 => vv = .string SB
          | 5 => vv = .string (SP ++ SB)
          | 6 => vv = .pointer (some ⟨qp, 1, none⟩)
          | 7 => vv = .int .i64 pt
          | 8 => vv = .pointer (some ⟨qq, 1, none⟩)
          | 9 => vv = .int .i64 bt
          | 10 => vv = .int .i64 (pt + bt)
          | 11 => vv = .pointer (some ⟨qq, 2, none⟩)
          | 12 => vv = .agg (dimV bd)
          | _ => ∃ (e0 : Array Value), vv = .agg e0 ∧ UV wx e0 (some Q) bd)
          (fun k => false) (by kernel_rfl) ?haF1 rfl (by kernel_rfl) (by kernel_rfl) (fun _ _ _ _ _ h => h) ?hSb1 ?hPb1 ?hS1 ?hop1 ?hfin1
         case haF1 =>
          intro vals
          simp only [fillAll, List.getElem?_cons_zero, List.getElem?_cons_succ, Act.put, List.setIfInBounds_toArray, List.set_cons_zero, List.set_cons_succ]
          exact rfl
         case hSb1 => exact fun wx w2 hb hS => below_two hS hb
         case hPb1 =>
          intro k v wa wb hb h
          match k, h with
          | 0, h => exact h
          | 1, h => exact h
          | 2, h => exact h
          | 3, h => exact h
          | 4, h => exact h
          | 5, h => exact h
          | 6, h => exact h
          | 7, h => exact h
          | 8, h => exact h
          | 9, h => exact h
          | 10, h => exact h
          | 11, h => exact h
          | 12, h => exact h
          | _ + 13, ⟨e0, h1, g0⟩ => exact ⟨e0, h1, g0.below hb⟩
         case hS1 => exact (Below.refl _ _).drew
         case hop1 =>
          refine .cons (k := 0) ?_ (.cons (k := 1) ?_ (.cons (k := 2) ?_ (.cons (k := 3) ?_ (.cons (k := 4) ?_ (.cons (k := 5) ?_ (.cons (k := 6) ?_ (.cons (k := 7) ?_ (.cons (k := 8) ?_ (.cons (k := 9) ?_ (.cons (k := 10) ?_ (.cons (k := 11) ?_ (.cons (k := 12) ?_ (.cons (k := 13) ?_ (.nil))))))))))))))
          all_goals intro vals wr hS hd KC hK
          all_goals (show Oper.wp _ _ _ _ _ _; dsimp only)
          · go_simp
            refine hK _ _ rfl (Below.refl _ _) (by first | rfl | simp) (fun h => by cases h)
          · go_simp
            refine hK _ _ rfl (Below.refl _ _) (by first | rfl | simp) (fun h => by cases h)
          · have d1 : vals 1 = _ := hd 1 (by decide +kernel)
            rw [d1]
            have z0 := (h_rp.below hS).cell (k := 0) (v := .string SP) rfl
            go_simp
            refine hK _ _ rfl (Below.refl _ _) (by first | rfl | simp) (fun h => by cases h)
          · go_simp
            refine hK _ _ rfl (Below.refl _ _) (by first | rfl | simp) (fun h => by cases h)
          · have d3 : vals 3 = _ := hd 3 (by decide +kernel)
            rw [d3]
            have z0 := (h_rq.below hS).cell gB0.out
            go_simp
            refine hK _ _ rfl (Below.refl _ _) (by first | rfl | simp) (fun h => by cases h)
          · have d2 : vals 2 = _ := hd 2 (by decide +kernel)
            have d4 : vals 4 = _ := hd 4 (by decide +kernel)
            rw [d2, d4]
            have hz1 := hSz.out.1
            have hz2 := hSz.out.2
            go_simp
            rw [if_neg (by omega)]
            go_simp
            refine hK _ _ rfl (Below.refl _ _) (by first | rfl | simp) (fun h => by cases h)
          · go_simp
            refine hK _ _ rfl (Below.refl _ _) (by first | rfl | simp) (fun h => by cases h)
          · have d6 : vals 6 = _ := hd 6 (by decide +kernel)
            rw [d6]
            have z0 := (h_rp.below hS).cell (k := 1) (v := .int .i64 pt) rfl
            go_simp
            refine hK _ _ rfl (Below.refl _ _) (by first | rfl | simp) (fun h => by cases h)
          · go_simp
            refine hK _ _ rfl (Below.refl _ _) (by first | rfl | simp) (fun h => by cases h)
          · have d8 : vals 8 = _ := hd 8 (by decide +kernel)
            rw [d8]
            have z0 := (h_rq.below hS).cell gB1.out
            go_simp
            refine hK _ _ rfl (Below.refl _ _) (by first | rfl | simp) (fun h => by cases h)
          · have d7 : vals 7 = _ := hd 7 (by decide +kernel)
            have d9 : vals 9 = _ := hd 9 (by decide +kernel)
            rw [d7, d9]
            have hwr : IntKind.i64.wrap (pt + bt) = pt + bt := by have := hTb.out; rw [IntKind.wrap_i64]; omega
            go_simp
            refine hK _ _ rfl (Below.refl _ _) (by first | rfl | simp) (fun h => by cases h)
          · go_simp
            refine hK _ _ rfl (Below.refl _ _) (by first | rfl | simp) (fun h => by cases h)
          · have d11 : vals 11 = _ := hd 11 (by decide +kernel)
            rw [d11]
            refine wp_loadV 35 _ rfl _ _ rfl (dimV bd) (Lib.hid (gB2.out (h_rq.below hS))) HMd ?_
            refine hK _ _ rfl (Below.refl _ _) (by first | rfl | simp) (fun h => by cases h)
          · have d10 : vals 10 = _ := hd 10 (by decide +kernel)
            have d12 : vals 12 = _ := hd 12 (by decide +kernel)
            rw [d10, d12]
            go_simp
            go_at_call 43
            with_reducible refine (uOf_c 1 (pt + bt) (by decide) (by decide) 1 one_cast Q hSc.out bd HLd.out wr).mono ?_
            rintro e w2 ⟨r0, rfl, f0, bn_r⟩
            refine hK _ _ rfl bn_r ⟨_, rfl, f0⟩ (fun h => by cases h)
         case hfin1 =>
          intro vals wr hS hP hne
          have ez_0 : vals 0 = _ := hP 0 (by decide)
          have ez_5 : vals 5 = _ := hP 5 (by decide)
          obtain ⟨V_13_0, ez_13, h_13_0⟩ := hP 13 (by decide)
          have hbel := below_two bw hS
          obtain ⟨w', hrun, hm2, hcs, hg⟩ := (hm.below hS).store hlen.out (.string (SP ++ SB)) (rowU (bAt i) (pAt j)).1 hKb.out hKey.out hOk.out hNo.out (u := (rowU (bAt i) (pAt j)).2) (by rw [hQ.out]; exact h_13_0)
          have hb2 := hbel.grown hg hbel.size (fun k hk => by cases hk; exact hmb.out)
          have hr2 := Lib.hid (RowA.cs hcs (h_rb.below hS))
          have hq2 := Lib.hid (RowA.cs hcs (h_rq.below hS))
          have hT2 := Lib.hid ((T.below hS).cs hcs)
          have hB2 := Lib.hid hb2
          have hM2 := Lib.hid hm2
          clear hm2 hcs hg hb2 hbel
          try dsimp only
          rw [ez_0, ez_5, ez_13]
          refine wpAny_ready (rs := [14]) (by kernel_rfl) (by simp) (AllReady.cons rfl (fun KC hK => ?_) AllReady.nil)
          go_simp
          refine hK _ _ ?_
          clear hK KC
          refine wpAny_done (by kernel_rfl) ?_ _
          go_wp2
          exact ⟨⟨j + 1, by omega, by simp, by rw [hStep.out]; exact hM2.out, hr2.out, hq2.out, hT2.out, hB2.out⟩, by simp [intOf]; omega⟩
       · obtain rfl : j = 6 := by omega
         rw [stdTo_row i h15] at hm
         have HM := Lib.hid hm
         have HR := Lib.hid h_rb
         have HT := Lib.hid T
         have HB := Lib.hid bw
         clear hm h_rb h_rq T bw h6 hj
         go_wp2
         exact ⟨⟨i + 1, by omega, by simp, HM, HR, HT, HB⟩, by simp [intOf]; omega⟩
   · obtain rfl : i = 15 := by omega
     have hm := HM.out
     have bw := HB.out
     clear HM HR HT HB h15 hi
     have h_rd := rowA_new wr 35 #[.int .i64 0, .int .i64 0, .int .i64 1, .int .i64 0, .int .i64 0, .int .i64 0, .int .i64 0]
     have bn := below_new wr (.cells #[.int .i64 0, .int .i64 0, .int .i64 1, .int .i64 0, .int .i64 0, .int .i64 0, .int .i64 0] 35)
     replace hm := hm.below bn
     replace bw := below_two bw bn
     clear bn
     have HI := Lib.hid h_rd.inV
     have HM7 : Hid (Many Tryz.prog 35 (#[.int .i64 0, .int .i64 0, .int .i64 1, .int .i64 0, .int .i64 0, .int .i64 0, .int .i64 0] : Array Value).size) := many7 (xs := [0, 0, 1, 0, 0, 0, 0]) rfl
     go_wp2_with (refine wpList_loadV (by rfl) 35 _ (by rfl) _ _ (by rfl) (#[.int .i64 0, .int .i64 0, .int .i64 1, .int .i64 0, .int .i64 0, .int .i64 0, .int .i64 0] : Array Value) (by assumption) (by assumption) ?_)
     clear HI
     generalize wr.alloc (.cells #[.int .i64 0, .int .i64 0, .int .i64 1, .int .i64 0, .int .i64 0, .int .i64 0, .int .i64 0] 35) = w3 at *
     obtain ⟨qd, eq⟩ : ∃ g, g = wr.heap.size := ⟨_, rfl⟩
     rw [← eq] at h_rd
     rw [← eq]
     clear eq
     refine (uOf_c 60 0 (by decide) (by decide) 60 sixty_cast (ofU 60 0 [0, 0, 1, 0, 0, 0, 0]).1 (by decide +kernel) [0, 0, 1, 0, 0, 0, 0] rfl _).mono ?_
     rintro e w4 ⟨V4, rfl, hv, bn⟩
     replace hm := hm.below bn
     replace h_rd := h_rd.below bn
     replace bw := below_two bw bn
     clear bn
     obtain ⟨w4', hrun, hm2, hcs, hg⟩ := hm.store std_len2.1 (.string ⟨#[109, 105, 110]⟩) [109, 105, 110] (by unfold Bytes; decide) (key_of (k := [109, 105, 110]) (by decide)) (u := ofU 60 0 [0, 0, 1, 0, 0, 0, 0]) (by decide +kernel) stdTo_min.1 hv
     replace bw := bw.grown hg bw.size (fun k hk => by cases hk; exact hmb.out)
     replace h_rd := RowA.cs hcs h_rd
     replace hm := hm2
     have HI := Lib.hid h_rd.inV
     clear hm2 hcs hg hv
     go_wp2_with (refine wpList_loadV (by rfl) 35 _ (by rfl) _ _ (by rfl) (#[.int .i64 0, .int .i64 0, .int .i64 1, .int .i64 0, .int .i64 0, .int .i64 0, .int .i64 0] : Array Value) (by assumption) (by assumption) ?_)
     clear HI hrun
     refine (uOf_c 3600 0 (by decide) (by decide) 3600 hour_cast (ofU 3600 0 [0, 0, 1, 0, 0, 0, 0]).1 (by decide +kernel) [0, 0, 1, 0, 0, 0, 0] rfl _).mono ?_
     rintro e w5 ⟨V5, rfl, hv, bn⟩
     replace hm := hm.below bn
     replace h_rd := h_rd.below bn
     replace bw := below_two bw bn
     clear bn
     obtain ⟨w5', hrun, hm2, hcs, hg⟩ := hm.store std_len2.2 (.string ⟨#[104]⟩) [104] (by unfold Bytes; decide) (key_of (k := [104]) (by decide)) (u := ofU 3600 0 [0, 0, 1, 0, 0, 0, 0]) (by decide +kernel) stdTo_min.2 hv
     replace bw := bw.grown hg bw.size (fun k hk => by cases hk; exact hmb.out)
     replace h_rd := RowA.cs hcs h_rd
     replace hm := hm2
     have HI := Lib.hid h_rd.inV
     clear hm2 hcs hg hv
     go_wp2
     go_ret
     exact ⟨mb, rfl, hmb.out, hm, bw⟩
end Go.Proofs.YtohokfbohdoijaaGreatDoor

/- What a row's listed variable gives a statement on units: the table of prefixes reads as it is laid. No condition. -/
namespace Go.Proofs.YtohokfbohdoijaaGreatDoor
open Go.ChangeShapes Go.WideShapes Go.ChangeAt Go.RowKit Limb
set_option linter.unusedVariables false
def preL : List (List UInt8 × Int) := [([], 0), ([107], 3), ([77], 6), ([109], -3), ([117], -6), ([99], -2)]
theorem preL_preU : ∀ i < 6, Limb.strOf (preU.getD i ([], 0)).1 = ⟨(preL.getD i ([], 0)).1.toArray⟩ ∧ (preU.getD i ([], 0)).2 = (preL.getD i ([], 0)).2 := by decide +kernel
set_option maxRecDepth 100000 in
theorem prefix_pair {W : World} {name : String} {r : List (String × DataW Unit)} (h : laidMet Tryz.prog ((name, .agg (preL.map fun p => .agg [.lit (.string p.1), .lit (.int .i64 p.2)])) :: r) W) (hg : Tryz.prog.globalNamed name = some 0) :
 ∀ i, i < 6 → W.cell? ⟨0, i * 2, none⟩ = some (.string (Limb.strOf (preU.getD i ([], 0)).1)) ∧ W.cell? ⟨0, i * 2 + 1, none⟩ = some (.int .i64 (preU.getD i ([], 0)).2) := fun i hi => by
 obtain ⟨ps, ⟨g0, t0, cs0, f0, p0, q0, hg0, ht0, hv0, hd0, _, _⟩, _, _⟩ := h
 obtain rfl := Option.some.inj (hg.symm.trans hg0)
 have ht : (Tryz.prog.globals[0]?).map (·.type) = some 160 := by kernel_rfl
 obtain rfl := Option.some.inj (ht.symm.trans ht0)
 obtain ⟨f1, d, q, hd, hel⟩ := Lib.array_elem Tryz.underlying160 hd0 i hi
 have hc : Tryz.prog.cellsOf 159 = 2 := by kernel_rfl
 have hcs : Tryz.prog.cellsOf 9 = 1 := by kernel_rfl
 have hci : Tryz.prog.cellsOf 3 = 1 := by kernel_rfl
 rw [hc] at hel
 obtain ⟨xs, m, e0, hx, hlen, hxl, hel2⟩ := DataW.trod_struct Tryz.underlying159 hel
 have h0 : DataW.trod _ Tryz.prog W 0 _ _ m 9 ((((cs0.toList.drop (i * 2)).take 2).drop 0).take (Tryz.prog.cellsOf 9)) = xs[0]? := hel2 0 _ rfl
 have h1 : DataW.trod _ Tryz.prog W 0 _ _ m 3 ((((cs0.toList.drop (i * 2)).take 2).drop 1).take (Tryz.prog.cellsOf 3)) = xs[1]? := hel2 1 _ rfl
 rw [hcs] at h0
 rw [hci] at h1
 have hxl2 : xs.length = 2 := by simpa using hxl
 match xs, hxl2 with
 | [x0, x1], _ =>
  simp only [List.getElem?_cons_zero, List.getElem?_cons_succ] at h0 h1
  obtain ⟨s, hs1, hs2, _⟩ := DataW.trod_string Tryz.underlying9 h0
  obtain ⟨n, hn1, hn2, _⟩ := DataW.trod_int Tryz.underlying3 h1
  have c0 : cs0.toList[i * 2]? = some (.string s) := by
   have h4 := congrArg (fun l : List Value => l[0]?) hs1
   simp only [List.getElem?_take, List.getElem?_drop, Nat.add_zero] at h4
   simpa using h4
  have c1 : cs0.toList[i * 2 + 1]? = some (.int .i64 n) := by
   have h4 := congrArg (fun l : List Value => l[0]?) hn1
   simp only [List.getElem?_take, List.getElem?_drop, Nat.add_zero] at h4
   simpa using h4
  have hd2 : d = .agg [.lit (.string s.data.toList), .lit (.int .i64 n)] := by
   have := congrArg Prod.fst hx
   rw [hs2, hn2] at this
   exact this
  rw [List.getElem?_map] at hd
  have hp : preL[i]? = some (preL.getD i ([], 0)) := by
   rw [List.getD_eq_getElem?_getD, List.getElem?_eq_getElem (show i < preL.length from hi)]; rfl
  rw [hp] at hd
  simp only [Option.map_some, Option.some.injEq] at hd
  rw [hd2] at hd
  injection hd with hd
  injection hd with hd1 hd
  injection hd with hd3 _
  injection hd1 with hd1
  injection hd1 with hd1
  injection hd3 with hd3
  injection hd3 with _ hd3
  obtain ⟨p1, p2⟩ := preL_preU i hi
  have k0 := World.var?_cell hg0 hv0 (i * 2)
  have k1 := World.var?_cell hg0 hv0 (i * 2 + 1)
  rw [← Array.getElem?_toList] at k0 k1
  rw [k0, k1, c0, c1, p1, p2, hd1, hd3]
  exact ⟨rfl, rfl⟩
theorem prefixes_tab {W : World} {name : String} {r : List (String × DataW Unit)} (h : laidMet Tryz.prog ((name, .agg (preL.map fun p => .agg [.lit (.string p.1), .lit (.int .i64 p.2)])) :: r) W) (hg : Tryz.prog.globalNamed name = some 0) : UTab W := by
 have hp := prefix_pair h hg
 intro j v hv
 rw [Nat.zero_add]
 match j, hv with
 | 0, hv => cases hv; exact (hp 0 (by decide)).1
 | 1, hv => cases hv; exact (hp 0 (by decide)).2
 | 2, hv => cases hv; exact (hp 1 (by decide)).1
 | 3, hv => cases hv; exact (hp 1 (by decide)).2
 | 4, hv => cases hv; exact (hp 2 (by decide)).1
 | 5, hv => cases hv; exact (hp 2 (by decide)).2
 | 6, hv => cases hv; exact (hp 3 (by decide)).1
 | 7, hv => cases hv; exact (hp 3 (by decide)).2
 | 8, hv => cases hv; exact (hp 4 (by decide)).1
 | 9, hv => cases hv; exact (hp 4 (by decide)).2
 | 10, hv => cases hv; exact (hp 5 (by decide)).1
 | 11, hv => cases hv; exact (hp 5 (by decide)).2
 | j + 12, hv => exact absurd hv (by simp [prefC, preU, prefL])
end Go.Proofs.YtohokfbohdoijaaGreatDoor
