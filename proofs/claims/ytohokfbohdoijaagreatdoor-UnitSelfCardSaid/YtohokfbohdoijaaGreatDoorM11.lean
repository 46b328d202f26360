/- Part 11 of the texts that the statements of this seat lean on: mathematics, and what functions answer, as contracts over memory; each part says its own conditions. -/
import Derived.Test.YtohokfbohdoijaaGreatDoorM10
/- What the reader of a unit's text does: a power taken into the product (multiply), case by case, as contracts over memory. Conditions: seven exponents; the power's and the product's answers. -/
namespace Go.Proofs.YtohokfbohdoijaaGreatDoor
open Go.RowKit Limb
set_option linter.unusedVariables false
section
variable {w : World} {rb mb i : Nat} {s : ByteArray} {p1 u1 f1 z1 : Rat} {A B Au Bu : Option Addr} {n c m d nu cu mu du : Nat} {xs us S : List Int}
set_option maxHeartbeats 4000000 in
set_option maxRecDepth 100000 in
theorem tMul_A (h : Rd w rb mb s i (uL (sg (oTop (some p1))) A n c B m d xs)) (hp : QT w A n c B m d (some p1)) (hu : QT w Au nu cu Bu mu du (some u1)) (hxs : xs.length = 7) (hus : us.length = 7) (k : Int) (hPow : Hid (powR (some u1) k = (none, 2))) :
 Calls Tryz.prog 116 #[.pointer (some ⟨rb, 0, none⟩), .agg (uV (sg (oTop (some u1))) Au nu cu Bu mu du us), .int .i64 k] w fun e w' => e = .returned (.bool false) ∧ w.grownBy w' (some rb) := by
 have bw := below_new w (.cells (uV (sg (oTop (some u1))) Au nu cu Bu mu du us) 37)
 have h_rx := rowA_new w 37 (uV (sg (oTop (some u1))) Au nu cu Bu mu du us)
 have HI := Lib.hid (uV_rat h_rx)
 have HM3 := Lib.hid (many3 (.bool (sg (oTop (some u1)))) (.slice Au nu cu) (.slice Bu mu du))
 have HC := Lib.hid (h.below bw)
 have HQp := Lib.hid (hp.below bw)
 have HQu := Lib.hid (hu.below bw)
 have HG := Lib.hid (grown_of bw (some rb))
 have hn0 : rb ≠ w.heap.size := by have := h.lt; omega
 have HLX := Lib.hid hxs
 have HLU := Lib.hid hus
 clear h hp hu bw hxs hus
 go_enter Tryz.func116, Tryz.ntmps116
 go_wp2_with (refine wpList_loadV (by rfl) _ _ (by rfl) _ _ (by rfl) _ (by assumption) (by assumption) ?_)
 clear HI HM3
 generalize w.alloc (.cells (uV (sg (oTop (some u1))) Au nu cu Bu mu du us) 37) = w1 at *
 obtain ⟨qx, eq⟩ : ∃ g, g = w.heap.size := ⟨_, rfl⟩
 rw [← eq] at h_rx hn0 ⊢
 have hqx : Hid (w.heap.size ≤ qx) := by show _ ≤ _; omega
 have hnx := Lib.hid hn0
 clear eq hn0
 refine (pOf_c HQu.out (by decide) k none 2 hPow.out).mono ?_
 rintro e w2 ⟨Af, nf, cf, Bf, mf, df, rfl, hqf, bn⟩
 have hC := HC.out.below bn
 have hQp := HQp.out.below bn
 have hrx := RowA.below h_rx bn
 have hG := grown_trans HG.out (grown_of bn (some rb))
 clear HC HQp HQu HG h_rx bn
 have h_rf := rowA_new w2 33 #[.bool (sg (oTop none)), .slice Af nf cf, .slice Bf mf df]
 have bn := below_new w2 (.cells #[.bool (sg (oTop none)), .slice Af nf cf, .slice Bf mf df] 33)
 have HC := Lib.hid (hC.below bn)
 have HQp := Lib.hid (hQp.below bn)
 have HQf := Lib.hid (hqf.below bn)
 have h_rx := Lib.hid (RowA.below hrx bn)
 have HG := Lib.hid (grown_trans hG (grown_of bn (some rb)))
 have HU := Lib.hid (fits3 (s := sg (oTop none)) (A := Af) (n := nf) (c := cf) (B := Bf) (m := mf) (d := df))
 clear hC hQp hqf hrx hG bn
 go_wp2_with (first | (refine wpList_loadV (by rfl) _ _ (by rfl) _ _ (by rfl) _ (by assumption) (by assumption) ?_) | (refine wpList_storeNew (by rfl) _ _ _ (by rfl) _ _ _ (by rfl) (by rfl) (by assumption) ?_))
 go_ret
 exact ⟨rfl, HG.out⟩
set_option maxHeartbeats 4000000 in
set_option maxRecDepth 100000 in
theorem tMul_B (h : Rd w rb mb s i (uL (sg (oTop (some p1))) A n c B m d xs)) (hp : QT w A n c B m d (some p1)) (hu : QT w Au nu cu Bu mu du (some u1)) (hxs : xs.length = 7) (hus : us.length = 7) (k : Int) (hPow : Hid (powR (some u1) k = (some f1, 0))) (hMulR : Hid (mulR (some p1) (some f1) = (none, 2))) :
 Calls Tryz.prog 116 #[.pointer (some ⟨rb, 0, none⟩), .agg (uV (sg (oTop (some u1))) Au nu cu Bu mu du us), .int .i64 k] w fun e w' => e = .returned (.bool false) ∧ w.grownBy w' (some rb) := by
 have bw := below_new w (.cells (uV (sg (oTop (some u1))) Au nu cu Bu mu du us) 37)
 have h_rx := rowA_new w 37 (uV (sg (oTop (some u1))) Au nu cu Bu mu du us)
 have HI := Lib.hid (uV_rat h_rx)
 have HM3 := Lib.hid (many3 (.bool (sg (oTop (some u1)))) (.slice Au nu cu) (.slice Bu mu du))
 have HC := Lib.hid (h.below bw)
 have HQp := Lib.hid (hp.below bw)
 have HQu := Lib.hid (hu.below bw)
 have HG := Lib.hid (grown_of bw (some rb))
 have hn0 : rb ≠ w.heap.size := by have := h.lt; omega
 have HLX := Lib.hid hxs
 have HLU := Lib.hid hus
 clear h hp hu bw hxs hus
 go_enter Tryz.func116, Tryz.ntmps116
 go_wp2_with (refine wpList_loadV (by rfl) _ _ (by rfl) _ _ (by rfl) _ (by assumption) (by assumption) ?_)
 clear HI HM3
 generalize w.alloc (.cells (uV (sg (oTop (some u1))) Au nu cu Bu mu du us) 37) = w1 at *
 obtain ⟨qx, eq⟩ : ∃ g, g = w.heap.size := ⟨_, rfl⟩
 rw [← eq] at h_rx hn0 ⊢
 have hqx : Hid (w.heap.size ≤ qx) := by show _ ≤ _; omega
 have hnx := Lib.hid hn0
 clear eq hn0
 refine (pOf_c HQu.out (by decide) k (some f1) 0 hPow.out).mono ?_
 rintro e w2 ⟨Af, nf, cf, Bf, mf, df, rfl, hqf, bn⟩
 have hC := HC.out.below bn
 have hQp := HQp.out.below bn
 have hrx := RowA.below h_rx bn
 have hG := grown_trans HG.out (grown_of bn (some rb))
 clear HC HQp HQu HG h_rx bn
 have h_rf := rowA_new w2 33 #[.bool (sg (oTop (some f1))), .slice Af nf cf, .slice Bf mf df]
 have bn := below_new w2 (.cells #[.bool (sg (oTop (some f1))), .slice Af nf cf, .slice Bf mf df] 33)
 have HC := Lib.hid (hC.below bn)
 have HQp := Lib.hid (hQp.below bn)
 have HQf := Lib.hid (hqf.below bn)
 have h_rx := Lib.hid (RowA.below hrx bn)
 have HG := Lib.hid (grown_trans hG (grown_of bn (some rb)))
 have HU := Lib.hid (fits3 (s := sg (oTop (some f1))) (A := Af) (n := nf) (c := cf) (B := Bf) (m := mf) (d := df))
 clear hC hQp hqf hrx hG bn
 go_wp2_with (first | (refine wpList_loadV (by rfl) _ _ (by rfl) _ _ (by rfl) _ (by assumption) (by assumption) ?_) | (refine wpList_storeNew (by rfl) _ _ _ (by rfl) _ _ _ (by rfl) (by rfl) (by assumption) ?_))
 generalize w2.alloc (.cells #[.bool (sg (oTop (some f1))), .slice Af nf cf, .slice Bf mf df] 33) = wS at *
 obtain ⟨qf, eq⟩ : ∃ g, g = w2.heap.size := ⟨_, rfl⟩
 rw [← eq] at h_rf
 rw [← eq]
 clear eq
 refine region_freex 14 2 10 [20, 21, 22, 23, 24, 25, 26, 27, 19, 28, 29, 30, 31, 32] ?aF1 (fun wx => Below wS.heap.size wS wx) (fun k vv wx => match k with
  | 0 => vv = .pointer (some ⟨rb, 0, none⟩)
  | 1 => vv = .pointer (some ⟨rb, 0, none⟩)
  | 2 => vv = .pointer (some ⟨rb, 0, none⟩)
  | 3 => vv = .pointer (some ⟨rb, 3, none⟩)
  | 4 => vv = .pointer (some ⟨rb, 3, none⟩)
  | 5 => vv = .agg #[.bool (sg (oTop (some p1))), .slice A n c, .slice B m d]
  | 6 => vv = .agg #[.bool (sg (oTop (some f1))), .slice Af nf cf, .slice Bf mf df]
  | 7 => ∃ (e0 : Option Addr) (e1 : Nat) (e2 : Nat) (e3 : Option Addr) (e4 : Nat) (e5 : Nat), vv = .tuple #[.agg #[.bool (sg (oTop none)), .slice e0 e1 e2, .slice e3 e4 e5], .int .i64 2] ∧ QT wx e0 e1 e2 e3 e4 e5 none
  | 8 => ∃ (e0 : Option Addr) (e1 : Nat) (e2 : Nat) (e3 : Option Addr) (e4 : Nat) (e5 : Nat), vv = .tuple #[.agg #[.bool (sg (oTop none)), .slice e0 e1 e2, .slice e3 e4 e5], .int .i64 2] ∧ QT wx e0 e1 e2 e3 e4 e5 none
  | 9 => ∃ (e0 : Option Addr) (e1 : Nat) (e2 : Nat) (e3 : Option Addr) (e4 : Nat) (e5 : Nat), vv = .agg #[.bool (sg (oTop none)), .slice e0 e1 e2, .slice e3 e4 e5] ∧ QT wx e0 e1 e2 e3 e4 e5 none
  | 10 => vv = .int .i64 2
  | 11 => vv = .pointer (some ⟨rb, 0, none⟩)
  | 12 => vv = .pointer (some ⟨rb, 3, none⟩)
  | _ => vv = .pointer (some ⟨rb, 3, none⟩))
  (fun k => false) (by kernel_rfl) ?haF1 rfl (by kernel_rfl) (by kernel_rfl) (by decide) rfl (by kernel_rfl) (by kernel_rfl) ?hyx1 (fun _ _ _ _ _ h => h) ?hSb1 ?hPb1 ?hS1 ?hop1 ?hfin1
 case haF1 =>
  intro vals
  simp only [fillAll, List.getElem?_cons_zero, List.getElem?_cons_succ, Act.put, List.setIfInBounds_toArray, List.set_cons_zero, List.set_cons_succ]
  exact rfl
 case hyx1 =>
  intro vals wr hS hd o ho
  obtain ⟨A_8_0, n_8_1, n_8_2, A_8_3, n_8_4, n_8_5, d8, h_8_0⟩ := hd 8 (by decide) (by decide)
  cases ho
  try dsimp only
  rw [d8]
  exact ⟨rfl, _, fun _ => rfl, rfl⟩
 case hSb1 => exact fun wx w2 hb hS => below_two hS hb
 case hPb1 =>
  intro k v wa wb hb h
  match k, h with
  | 0, h => exact h
  | 1, h => exact h
  | 2, h => exact h
  | 3, h => exact h
  | 4, h => exact h
  | 5, h => exact h
  | 6, h => exact h
  | 7, ⟨e0, e1, e2, e3, e4, e5, h1, g0⟩ => exact ⟨e0, e1, e2, e3, e4, e5, h1, g0.below hb⟩
  | 8, ⟨e0, e1, e2, e3, e4, e5, h1, g0⟩ => exact ⟨e0, e1, e2, e3, e4, e5, h1, g0.below hb⟩
  | 9, ⟨e0, e1, e2, e3, e4, e5, h1, g0⟩ => exact ⟨e0, e1, e2, e3, e4, e5, h1, g0.below hb⟩
  | 10, h => exact h
  | 11, h => exact h
  | 12, h => exact h
  | _ + 13, h => exact h
 case hS1 => exact (Below.refl _ _).drew
 case hop1 =>
  refine .cons (k := 0) (.plain rfl ?_) (.cons (k := 1) (.plain rfl ?_) (.cons (k := 2) (.plain rfl ?_) (.cons (k := 3) (.plain rfl ?_) (.cons (k := 4) (.plain rfl ?_) (.cons (k := 5) (.plain rfl ?_) (.cons (k := 6) (.plain rfl ?_) (.cons (k := 7) (.plain rfl ?_) (.cons (k := 8) (.plain rfl ?_) (.cons (k := 9) (.plain rfl ?_) (.cons (k := 10) (.plain rfl ?_) (.cons (k := 11) (.plain rfl ?_) (.cons (k := 12) (.plain rfl ?_) (.cons (k := 13) (.plain rfl ?_) (.nil))))))))))))))
  all_goals intro vals wr hS hd KC hK
  all_goals (show Oper.wp _ _ _ _ _ _; dsimp only)
  · go_simp
    refine hK _ _ rfl (Below.refl _ _) (by first | rfl | simp) (fun h => by cases h)
  · go_simp
    refine hK _ _ rfl (Below.refl _ _) (by first | rfl | simp) (fun h => by cases h)
  · have d1 : vals 1 = _ := hd 1 (by decide +kernel)
    rw [d1]
    go_simp
    refine hK _ _ rfl (Below.refl _ _) (by first | rfl | simp) (fun h => by cases h)
  · have d2 : vals 2 = _ := hd 2 (by decide +kernel)
    rw [d2]
    go_simp
    refine hK _ _ rfl (Below.refl _ _) (by first | rfl | simp) (fun h => by cases h)
  · have d3 : vals 3 = _ := hd 3 (by decide +kernel)
    rw [d3]
    go_simp
    refine hK _ _ rfl (Below.refl _ _) (by first | rfl | simp) (fun h => by cases h)
  · have d4 : vals 4 = _ := hd 4 (by decide +kernel)
    rw [d4]
    refine wp_loadV 33 _ rfl rb 3 (by kernel_rfl) #[.bool (sg (oTop (some p1))), .slice A n c, .slice B m d] (Lib.hid (rd_rat (HC.out.below hS))) (Lib.hid (many3 _ _ _)) ?_
    refine hK _ _ rfl (Below.refl _ _) (by first | rfl | simp) (fun h => by cases h)
  · refine wp_loadV 33 _ rfl _ _ rfl #[.bool (sg (oTop (some f1))), .slice Af nf cf, .slice Bf mf df] (Lib.hid (h_rf.below hS).inV) (Lib.hid (many3 _ _ _)) ?_
    refine hK _ _ rfl (Below.refl _ _) (by first | rfl | simp) (fun h => by cases h)
  · have d5 : vals 5 = _ := hd 5 (by decide +kernel)
    have d6 : vals 6 = _ := hd 6 (by decide +kernel)
    rw [d5, d6]
    go_simp
    go_at_call 26
    with_reducible refine (rMul_c (HQp.out.below hS) (HQf.out.below hS) (by decide) (by decide) none 2 hMulR.out).mono ?_
    rintro e w2 ⟨r0, r1, r2, r3, r4, r5, rfl, f0, bn_r⟩
    refine hK _ _ rfl bn_r ⟨_, _, _, _, _, _, rfl, f0⟩ (fun h => by cases h)
  · obtain ⟨A_7_0, n_7_1, n_7_2, A_7_3, n_7_4, n_7_5, d7, h_7_0⟩ := hd 7 (by decide +kernel)
    rw [d7]
    go_simp
    refine hK _ _ rfl (Below.refl _ _) ⟨_, _, _, _, _, _, rfl, h_7_0⟩ (fun h => by cases h)
  · obtain ⟨A_8_0, n_8_1, n_8_2, A_8_3, n_8_4, n_8_5, d8, h_8_0⟩ := hd 8 (by decide +kernel)
    rw [d8]
    go_simp
    refine hK _ _ rfl (Below.refl _ _) ⟨_, _, _, _, _, _, rfl, h_8_0⟩ (fun h => by cases h)
  · obtain ⟨A_8_0, n_8_1, n_8_2, A_8_3, n_8_4, n_8_5, d8, h_8_0⟩ := hd 8 (by decide +kernel)
    rw [d8]
    go_simp
    refine hK _ _ rfl (Below.refl _ _) rfl (fun h => by cases h)
  · have d0 : vals 0 = _ := hd 0 (by decide +kernel)
    rw [d0]
    go_simp
    refine hK _ _ rfl (Below.refl _ _) (by first | rfl | simp) (fun h => by cases h)
  · have d11 : vals 11 = _ := hd 11 (by decide +kernel)
    rw [d11]
    go_simp
    refine hK _ _ rfl (Below.refl _ _) (by first | rfl | simp) (fun h => by cases h)
  · have d12 : vals 12 = _ := hd 12 (by decide +kernel)
    rw [d12]
    go_simp
    refine hK _ _ rfl (Below.refl _ _) (by first | rfl | simp) (fun h => by cases h)
 case hfin1 =>
  intro vals wr hS hP hne
  have ez_13 : vals 13 = _ := hP 13 (by decide)
  obtain ⟨A_9_0, n_9_1, n_9_2, A_9_3, n_9_4, n_9_5, ez_9, h_9_0⟩ := hP 9 (by decide)
  have ez_10 : vals 10 = _ := hP 10 (by decide)
  have hC := HC.out.below hS
  have hC2 := Lib.hid (hC.rat (a' := sg (oTop none)) (A' := A_9_0) (n' := n_9_1) (c' := n_9_2) (B' := A_9_3) (m' := n_9_4) (d' := n_9_5))
  have hg2 := grown_cells (b := rb) [.bool (sg (oTop none)), .slice A_9_0 n_9_1 n_9_2, .slice A_9_3 n_9_4 n_9_5] wr 3
  have hQ2 := Lib.hid (QT.over hC (rd_noughts) hg2 h_9_0)
  have hG2 := Lib.hid (grown_trans (grown_trans HG.out (grown_of hS (some rb))) hg2)
  have hX2 := Lib.hid (RowA.onward (RowA.below h_rx.out hS) hg2 hnx.out)
  clear hC hg2
  try dsimp only
  rw [ez_13, ez_9, ez_10]
  refine wpAny_ready (rs := [14]) (by kernel_rfl) (by simp) (AllReady.cons rfl (fun KC hK => ?_) AllReady.nil)
  refine wp_store_mid 33 _ _ rfl rb 3 #[.bool (sg (oTop none)), .slice A_9_0 n_9_1 n_9_2, .slice A_9_3 n_9_4 n_9_5] rfl rfl (rd_there (HC.out.below hS) 3 3 (by omega)) (by kernel_rfl) (by simp [Value.oneCell']) ?_
  refine hK _ _ ?_
  clear hK KC
  try dsimp only [Act.put]
  refine wpAny_ready (rs := [15]) (by kernel_rfl) (by simp) (AllReady.cons rfl (fun KC hK => ?_) AllReady.nil)
  go_simp
  refine hK _ _ ?_
  clear hK KC
  refine wpAny_done (by kernel_rfl) ?_ _
  go_wp2
  go_ret
  exact ⟨rfl, hG2.out⟩
set_option maxHeartbeats 4000000 in
set_option maxRecDepth 100000 in
theorem tMul_C (h : Rd w rb mb s i (uL (sg (oTop (some p1))) A n c B m d xs)) (hp : QT w A n c B m d (some p1)) (hu : QT w Au nu cu Bu mu du (some u1)) (hxs : xs.length = 7) (hus : us.length = 7) (k : Int) (hPow : Hid (powR (some u1) k = (some f1, 0))) (hMulR : Hid (mulR (some p1) (some f1) = (some z1, 0))) (HU64 : Hid (I64 us)) (hk0 : Hid (-9223372036854775808 ≤ k)) (hk1 : Hid (k ≤ 9223372036854775807)) (R : List Int) (HLR : Hid (R.length = 7)) (hPowD : Hid (powD us k = (R, 2))) :
 Calls Tryz.prog 116 #[.pointer (some ⟨rb, 0, none⟩), .agg (uV (sg (oTop (some u1))) Au nu cu Bu mu du us), .int .i64 k] w fun e w' => e = .returned (.bool false) ∧ w.grownBy w' (some rb) := by
 have bw := below_new w (.cells (uV (sg (oTop (some u1))) Au nu cu Bu mu du us) 37)
 have h_rx := rowA_new w 37 (uV (sg (oTop (some u1))) Au nu cu Bu mu du us)
 have HI := Lib.hid (uV_rat h_rx)
 have HM3 := Lib.hid (many3 (.bool (sg (oTop (some u1)))) (.slice Au nu cu) (.slice Bu mu du))
 have HC := Lib.hid (h.below bw)
 have HQp := Lib.hid (hp.below bw)
 have HQu := Lib.hid (hu.below bw)
 have HG := Lib.hid (grown_of bw (some rb))
 have hn0 : rb ≠ w.heap.size := by have := h.lt; omega
 have HLX := Lib.hid hxs
 have HLU := Lib.hid hus
 clear h hp hu bw hxs hus
 go_enter Tryz.func116, Tryz.ntmps116
 go_wp2_with (refine wpList_loadV (by rfl) _ _ (by rfl) _ _ (by rfl) _ (by assumption) (by assumption) ?_)
 clear HI HM3
 generalize w.alloc (.cells (uV (sg (oTop (some u1))) Au nu cu Bu mu du us) 37) = w1 at *
 obtain ⟨qx, eq⟩ : ∃ g, g = w.heap.size := ⟨_, rfl⟩
 rw [← eq] at h_rx hn0 ⊢
 have hqx : Hid (w.heap.size ≤ qx) := by show _ ≤ _; omega
 have hnx := Lib.hid hn0
 clear eq hn0
 refine (pOf_c HQu.out (by decide) k (some f1) 0 hPow.out).mono ?_
 rintro e w2 ⟨Af, nf, cf, Bf, mf, df, rfl, hqf, bn⟩
 have hC := HC.out.below bn
 have hQp := HQp.out.below bn
 have hrx := RowA.below h_rx bn
 have hG := grown_trans HG.out (grown_of bn (some rb))
 clear HC HQp HQu HG h_rx bn
 have h_rf := rowA_new w2 33 #[.bool (sg (oTop (some f1))), .slice Af nf cf, .slice Bf mf df]
 have bn := below_new w2 (.cells #[.bool (sg (oTop (some f1))), .slice Af nf cf, .slice Bf mf df] 33)
 have HC := Lib.hid (hC.below bn)
 have HQp := Lib.hid (hQp.below bn)
 have HQf := Lib.hid (hqf.below bn)
 have h_rx := Lib.hid (RowA.below hrx bn)
 have HG := Lib.hid (grown_trans hG (grown_of bn (some rb)))
 have HU := Lib.hid (fits3 (s := sg (oTop (some f1))) (A := Af) (n := nf) (c := cf) (B := Bf) (m := mf) (d := df))
 clear hC hQp hqf hrx hG bn
 go_wp2_with (first | (refine wpList_loadV (by rfl) _ _ (by rfl) _ _ (by rfl) _ (by assumption) (by assumption) ?_) | (refine wpList_storeNew (by rfl) _ _ _ (by rfl) _ _ _ (by rfl) (by rfl) (by assumption) ?_))
 generalize w2.alloc (.cells #[.bool (sg (oTop (some f1))), .slice Af nf cf, .slice Bf mf df] 33) = wS at *
 obtain ⟨qf, eq⟩ : ∃ g, g = w2.heap.size := ⟨_, rfl⟩
 rw [← eq] at h_rf
 rw [← eq]
 clear eq
 refine region_freex 14 2 10 [20, 21, 22, 23, 24, 25, 26, 27, 19, 28, 29, 30, 31, 32] ?aF2 (fun wx => Below wS.heap.size wS wx) (fun k vv wx => match k with
  | 0 => vv = .pointer (some ⟨rb, 0, none⟩)
  | 1 => vv = .pointer (some ⟨rb, 0, none⟩)
  | 2 => vv = .pointer (some ⟨rb, 0, none⟩)
  | 3 => vv = .pointer (some ⟨rb, 3, none⟩)
  | 4 => vv = .pointer (some ⟨rb, 3, none⟩)
  | 5 => vv = .agg #[.bool (sg (oTop (some p1))), .slice A n c, .slice B m d]
  | 6 => vv = .agg #[.bool (sg (oTop (some f1))), .slice Af nf cf, .slice Bf mf df]
  | 7 => ∃ (e0 : Option Addr) (e1 : Nat) (e2 : Nat) (e3 : Option Addr) (e4 : Nat) (e5 : Nat), vv = .tuple #[.agg #[.bool (sg (oTop (some z1))), .slice e0 e1 e2, .slice e3 e4 e5], .int .i64 0] ∧ QT wx e0 e1 e2 e3 e4 e5 (some z1)
  | 8 => ∃ (e0 : Option Addr) (e1 : Nat) (e2 : Nat) (e3 : Option Addr) (e4 : Nat) (e5 : Nat), vv = .tuple #[.agg #[.bool (sg (oTop (some z1))), .slice e0 e1 e2, .slice e3 e4 e5], .int .i64 0] ∧ QT wx e0 e1 e2 e3 e4 e5 (some z1)
  | 9 => ∃ (e0 : Option Addr) (e1 : Nat) (e2 : Nat) (e3 : Option Addr) (e4 : Nat) (e5 : Nat), vv = .agg #[.bool (sg (oTop (some z1))), .slice e0 e1 e2, .slice e3 e4 e5] ∧ QT wx e0 e1 e2 e3 e4 e5 (some z1)
  | 10 => vv = .int .i64 0
  | 11 => vv = .pointer (some ⟨rb, 0, none⟩)
  | 12 => vv = .pointer (some ⟨rb, 3, none⟩)
  | _ => vv = .pointer (some ⟨rb, 3, none⟩))
  (fun k => false) (by kernel_rfl) ?haF2 rfl (by kernel_rfl) (by kernel_rfl) (by decide) rfl (by kernel_rfl) (by kernel_rfl) ?hyx2 (fun _ _ _ _ _ h => h) ?hSb2 ?hPb2 ?hS2 ?hop2 ?hfin2
 case haF2 =>
  intro vals
  simp only [fillAll, List.getElem?_cons_zero, List.getElem?_cons_succ, Act.put, List.setIfInBounds_toArray, List.set_cons_zero, List.set_cons_succ]
  exact rfl
 case hyx2 =>
  intro vals wr hS hd o ho
  obtain ⟨A_8_0, n_8_1, n_8_2, A_8_3, n_8_4, n_8_5, d8, h_8_0⟩ := hd 8 (by decide) (by decide)
  cases ho
  try dsimp only
  rw [d8]
  exact ⟨rfl, _, fun _ => rfl, rfl⟩
 case hSb2 => exact fun wx w2 hb hS => below_two hS hb
 case hPb2 =>
  intro k v wa wb hb h
  match k, h with
  | 0, h => exact h
  | 1, h => exact h
  | 2, h => exact h
  | 3, h => exact h
  | 4, h => exact h
  | 5, h => exact h
  | 6, h => exact h
  | 7, ⟨e0, e1, e2, e3, e4, e5, h1, g0⟩ => exact ⟨e0, e1, e2, e3, e4, e5, h1, g0.below hb⟩
  | 8, ⟨e0, e1, e2, e3, e4, e5, h1, g0⟩ => exact ⟨e0, e1, e2, e3, e4, e5, h1, g0.below hb⟩
  | 9, ⟨e0, e1, e2, e3, e4, e5, h1, g0⟩ => exact ⟨e0, e1, e2, e3, e4, e5, h1, g0.below hb⟩
  | 10, h => exact h
  | 11, h => exact h
  | 12, h => exact h
  | _ + 13, h => exact h
 case hS2 => exact (Below.refl _ _).drew
 case hop2 =>
  refine .cons (k := 0) (.plain rfl ?_) (.cons (k := 1) (.plain rfl ?_) (.cons (k := 2) (.plain rfl ?_) (.cons (k := 3) (.plain rfl ?_) (.cons (k := 4) (.plain rfl ?_) (.cons (k := 5) (.plain rfl ?_) (.cons (k := 6) (.plain rfl ?_) (.cons (k := 7) (.plain rfl ?_) (.cons (k := 8) (.plain rfl ?_) (.cons (k := 9) (.plain rfl ?_) (.cons (k := 10) (.plain rfl ?_) (.cons (k := 11) (.plain rfl ?_) (.cons (k := 12) (.plain rfl ?_) (.cons (k := 13) (.plain rfl ?_) (.nil))))))))))))))
  all_goals intro vals wr hS hd KC hK
  all_goals (show Oper.wp _ _ _ _ _ _; dsimp only)
  · go_simp
    refine hK _ _ rfl (Below.refl _ _) (by first | rfl | simp) (fun h => by cases h)
  · go_simp
    refine hK _ _ rfl (Below.refl _ _) (by first | rfl | simp) (fun h => by cases h)
  · have d1 : vals 1 = _ := hd 1 (by decide +kernel)
    rw [d1]
    go_simp
    refine hK _ _ rfl (Below.refl _ _) (by first | rfl | simp) (fun h => by cases h)
  · have d2 : vals 2 = _ := hd 2 (by decide +kernel)
    rw [d2]
    go_simp
    refine hK _ _ rfl (Below.refl _ _) (by first | rfl | simp) (fun h => by cases h)
  · have d3 : vals 3 = _ := hd 3 (by decide +kernel)
    rw [d3]
    go_simp
    refine hK _ _ rfl (Below.refl _ _) (by first | rfl | simp) (fun h => by cases h)
  · have d4 : vals 4 = _ := hd 4 (by decide +kernel)
    rw [d4]
    refine wp_loadV 33 _ rfl rb 3 (by kernel_rfl) #[.bool (sg (oTop (some p1))), .slice A n c, .slice B m d] (Lib.hid (rd_rat (HC.out.below hS))) (Lib.hid (many3 _ _ _)) ?_
    refine hK _ _ rfl (Below.refl _ _) (by first | rfl | simp) (fun h => by cases h)
  · refine wp_loadV 33 _ rfl _ _ rfl #[.bool (sg (oTop (some f1))), .slice Af nf cf, .slice Bf mf df] (Lib.hid (h_rf.below hS).inV) (Lib.hid (many3 _ _ _)) ?_
    refine hK _ _ rfl (Below.refl _ _) (by first | rfl | simp) (fun h => by cases h)
  · have d5 : vals 5 = _ := hd 5 (by decide +kernel)
    have d6 : vals 6 = _ := hd 6 (by decide +kernel)
    rw [d5, d6]
    go_simp
    go_at_call 26
    with_reducible refine (rMul_c (HQp.out.below hS) (HQf.out.below hS) (by decide) (by decide) (some z1) 0 hMulR.out).mono ?_
    rintro e w2 ⟨r0, r1, r2, r3, r4, r5, rfl, f0, bn_r⟩
    refine hK _ _ rfl bn_r ⟨_, _, _, _, _, _, rfl, f0⟩ (fun h => by cases h)
  · obtain ⟨A_7_0, n_7_1, n_7_2, A_7_3, n_7_4, n_7_5, d7, h_7_0⟩ := hd 7 (by decide +kernel)
    rw [d7]
    go_simp
    refine hK _ _ rfl (Below.refl _ _) ⟨_, _, _, _, _, _, rfl, h_7_0⟩ (fun h => by cases h)
  · obtain ⟨A_8_0, n_8_1, n_8_2, A_8_3, n_8_4, n_8_5, d8, h_8_0⟩ := hd 8 (by decide +kernel)
    rw [d8]
    go_simp
    refine hK _ _ rfl (Below.refl _ _) ⟨_, _, _, _, _, _, rfl, h_8_0⟩ (fun h => by cases h)
  · obtain ⟨A_8_0, n_8_1, n_8_2, A_8_3, n_8_4, n_8_5, d8, h_8_0⟩ := hd 8 (by decide +kernel)
    rw [d8]
    go_simp
    refine hK _ _ rfl (Below.refl _ _) rfl (fun h => by cases h)
  · have d0 : vals 0 = _ := hd 0 (by decide +kernel)
    rw [d0]
    go_simp
    refine hK _ _ rfl (Below.refl _ _) (by first | rfl | simp) (fun h => by cases h)
  · have d11 : vals 11 = _ := hd 11 (by decide +kernel)
    rw [d11]
    go_simp
    refine hK _ _ rfl (Below.refl _ _) (by first | rfl | simp) (fun h => by cases h)
  · have d12 : vals 12 = _ := hd 12 (by decide +kernel)
    rw [d12]
    go_simp
    refine hK _ _ rfl (Below.refl _ _) (by first | rfl | simp) (fun h => by cases h)
 case hfin2 =>
  intro vals wr hS hP hne
  have ez_13 : vals 13 = _ := hP 13 (by decide)
  obtain ⟨A_9_0, n_9_1, n_9_2, A_9_3, n_9_4, n_9_5, ez_9, h_9_0⟩ := hP 9 (by decide)
  have ez_10 : vals 10 = _ := hP 10 (by decide)
  have hC := HC.out.below hS
  have hC2 := Lib.hid (hC.rat (a' := sg (oTop (some z1))) (A' := A_9_0) (n' := n_9_1) (c' := n_9_2) (B' := A_9_3) (m' := n_9_4) (d' := n_9_5))
  have hg2 := grown_cells (b := rb) [.bool (sg (oTop (some z1))), .slice A_9_0 n_9_1 n_9_2, .slice A_9_3 n_9_4 n_9_5] wr 3
  have hQ2 := Lib.hid (QT.over hC (rd_noughts) hg2 h_9_0)
  have hG2 := Lib.hid (grown_trans (grown_trans HG.out (grown_of hS (some rb))) hg2)
  have hX2 := Lib.hid (RowA.onward (RowA.below h_rx.out hS) hg2 hnx.out)
  clear hC hg2
  have HI := Lib.hid (uV_dim hX2.out)
  have HM7 := Lib.hid (many7 HLU.out)
  try dsimp only
  rw [ez_13, ez_9, ez_10]
  refine wpAny_ready (rs := [14]) (by kernel_rfl) (by simp) (AllReady.cons rfl (fun KC hK => ?_) AllReady.nil)
  refine wp_store_mid 33 _ _ rfl rb 3 #[.bool (sg (oTop (some z1))), .slice A_9_0 n_9_1 n_9_2, .slice A_9_3 n_9_4 n_9_5] rfl rfl (rd_there (HC.out.below hS) 3 3 (by omega)) (by kernel_rfl) (by simp [Value.oneCell']) ?_
  refine hK _ _ ?_
  clear hK KC
  try dsimp only [Act.put]
  refine wpAny_ready (rs := [15]) (by kernel_rfl) (by simp) (AllReady.cons rfl (fun KC hK => ?_) AllReady.nil)
  go_simp
  refine hK _ _ ?_
  clear hK KC
  refine wpAny_done (by kernel_rfl) ?_ _
  go_wp2_with (refine wpList_loadV (by rfl) _ _ (by rfl) _ _ (by rfl) _ (by assumption) (by assumption) ?_)
  clear HI HM7
  generalize wr.setCells rb 3 [.bool (sg (oTop (some z1))), .slice A_9_0 n_9_1 n_9_2, .slice A_9_3 n_9_4 n_9_5] = w5 at *
  refine (dPow_c HLU.out HU64.out k hk0.out hk1.out R 2 hPowD.out).mono ?_
  rintro e w6 ⟨rfl, bn⟩
  have h_rg := rowA_new w6 35 (dimV R)
  have bm := below_new w6 (.cells (dimV R) 35)
  have bk := below_two bn bm
  have hC3 := Lib.hid (hC2.out.below bk)
  have hQ3 := Lib.hid (hQ2.out.below bk)
  have hG3 := Lib.hid (grown_trans hG2.out (grown_of bk (some rb)))
  have HU := Lib.hid (fits7 HLR.out)
  clear hC2 hQ2 hG2 bn bm bk
  go_wp2_with (refine wpList_storeNew (by rfl) _ _ _ (by rfl) _ _ _ (by rfl) (by rfl) (by assumption) ?_)
  go_ret
  exact ⟨rfl, hG3.out⟩
set_option maxHeartbeats 4000000 in
set_option maxRecDepth 100000 in
theorem tMul_D (h : Rd w rb mb s i (uL (sg (oTop (some p1))) A n c B m d xs)) (hp : QT w A n c B m d (some p1)) (hu : QT w Au nu cu Bu mu du (some u1)) (hxs : xs.length = 7) (hus : us.length = 7) (k : Int) (hPow : Hid (powR (some u1) k = (some f1, 0))) (hMulR : Hid (mulR (some p1) (some f1) = (some z1, 0))) (HU64 : Hid (I64 us)) (hk0 : Hid (-9223372036854775808 ≤ k)) (hk1 : Hid (k ≤ 9223372036854775807)) (R : List Int) (HLR : Hid (R.length = 7)) (hPowD : Hid (powD us k = (R, 0))) (HX64 : Hid (I64 xs)) (HR64 : Hid (I64 R)) (HLS : Hid (dim0.length = 7)) (hMulD : Hid (mulD xs R = (dim0, 2))) :
 Calls Tryz.prog 116 #[.pointer (some ⟨rb, 0, none⟩), .agg (uV (sg (oTop (some u1))) Au nu cu Bu mu du us), .int .i64 k] w fun e w' => e = .returned (.bool false) ∧ w.grownBy w' (some rb) := by
 have bw := below_new w (.cells (uV (sg (oTop (some u1))) Au nu cu Bu mu du us) 37)
 have h_rx := rowA_new w 37 (uV (sg (oTop (some u1))) Au nu cu Bu mu du us)
 have HI := Lib.hid (uV_rat h_rx)
 have HM3 := Lib.hid (many3 (.bool (sg (oTop (some u1)))) (.slice Au nu cu) (.slice Bu mu du))
 have HC := Lib.hid (h.below bw)
 have HQp := Lib.hid (hp.below bw)
 have HQu := Lib.hid (hu.below bw)
 have HG := Lib.hid (grown_of bw (some rb))
 have hn0 : rb ≠ w.heap.size := by have := h.lt; omega
 have HLX := Lib.hid hxs
 have HLU := Lib.hid hus
 clear h hp hu bw hxs hus
 go_enter Tryz.func116, Tryz.ntmps116
 go_wp2_with (refine wpList_loadV (by rfl) _ _ (by rfl) _ _ (by rfl) _ (by assumption) (by assumption) ?_)
 clear HI HM3
 generalize w.alloc (.cells (uV (sg (oTop (some u1))) Au nu cu Bu mu du us) 37) = w1 at *
 obtain ⟨qx, eq⟩ : ∃ g, g = w.heap.size := ⟨_, rfl⟩
 rw [← eq] at h_rx hn0 ⊢
 have hqx : Hid (w.heap.size ≤ qx) := by show _ ≤ _; omega
 have hnx := Lib.hid hn0
 clear eq hn0
 refine (pOf_c HQu.out (by decide) k (some f1) 0 hPow.out).mono ?_
 rintro e w2 ⟨Af, nf, cf, Bf, mf, df, rfl, hqf, bn⟩
 have hC := HC.out.below bn
 have hQp := HQp.out.below bn
 have hrx := RowA.below h_rx bn
 have hG := grown_trans HG.out (grown_of bn (some rb))
 clear HC HQp HQu HG h_rx bn
 have h_rf := rowA_new w2 33 #[.bool (sg (oTop (some f1))), .slice Af nf cf, .slice Bf mf df]
 have bn := below_new w2 (.cells #[.bool (sg (oTop (some f1))), .slice Af nf cf, .slice Bf mf df] 33)
 have HC := Lib.hid (hC.below bn)
 have HQp := Lib.hid (hQp.below bn)
 have HQf := Lib.hid (hqf.below bn)
 have h_rx := Lib.hid (RowA.below hrx bn)
 have HG := Lib.hid (grown_trans hG (grown_of bn (some rb)))
 have HU := Lib.hid (fits3 (s := sg (oTop (some f1))) (A := Af) (n := nf) (c := cf) (B := Bf) (m := mf) (d := df))
 clear hC hQp hqf hrx hG bn
 go_wp2_with (first | (refine wpList_loadV (by rfl) _ _ (by rfl) _ _ (by rfl) _ (by assumption) (by assumption) ?_) | (refine wpList_storeNew (by rfl) _ _ _ (by rfl) _ _ _ (by rfl) (by rfl) (by assumption) ?_))
 generalize w2.alloc (.cells #[.bool (sg (oTop (some f1))), .slice Af nf cf, .slice Bf mf df] 33) = wS at *
 obtain ⟨qf, eq⟩ : ∃ g, g = w2.heap.size := ⟨_, rfl⟩
 rw [← eq] at h_rf
 rw [← eq]
 clear eq
 refine region_freex 14 2 10 [20, 21, 22, 23, 24, 25, 26, 27, 19, 28, 29, 30, 31, 32] ?aF4 (fun wx => Below wS.heap.size wS wx) (fun k vv wx => match k with
  | 0 => vv = .pointer (some ⟨rb, 0, none⟩)
  | 1 => vv = .pointer (some ⟨rb, 0, none⟩)
  | 2 => vv = .pointer (some ⟨rb, 0, none⟩)
  | 3 => vv = .pointer (some ⟨rb, 3, none⟩)
  | 4 => vv = .pointer (some ⟨rb, 3, none⟩)
  | 5 => vv = .agg #[.bool (sg (oTop (some p1))), .slice A n c, .slice B m d]
  | 6 => vv = .agg #[.bool (sg (oTop (some f1))), .slice Af nf cf, .slice Bf mf df]
  | 7 => ∃ (e0 : Option Addr) (e1 : Nat) (e2 : Nat) (e3 : Option Addr) (e4 : Nat) (e5 : Nat), vv = .tuple #[.agg #[.bool (sg (oTop (some z1))), .slice e0 e1 e2, .slice e3 e4 e5], .int .i64 0] ∧ QT wx e0 e1 e2 e3 e4 e5 (some z1)
  | 8 => ∃ (e0 : Option Addr) (e1 : Nat) (e2 : Nat) (e3 : Option Addr) (e4 : Nat) (e5 : Nat), vv = .tuple #[.agg #[.bool (sg (oTop (some z1))), .slice e0 e1 e2, .slice e3 e4 e5], .int .i64 0] ∧ QT wx e0 e1 e2 e3 e4 e5 (some z1)
  | 9 => ∃ (e0 : Option Addr) (e1 : Nat) (e2 : Nat) (e3 : Option Addr) (e4 : Nat) (e5 : Nat), vv = .agg #[.bool (sg (oTop (some z1))), .slice e0 e1 e2, .slice e3 e4 e5] ∧ QT wx e0 e1 e2 e3 e4 e5 (some z1)
  | 10 => vv = .int .i64 0
  | 11 => vv = .pointer (some ⟨rb, 0, none⟩)
  | 12 => vv = .pointer (some ⟨rb, 3, none⟩)
  | _ => vv = .pointer (some ⟨rb, 3, none⟩))
  (fun k => false) (by kernel_rfl) ?haF4 rfl (by kernel_rfl) (by kernel_rfl) (by decide) rfl (by kernel_rfl) (by kernel_rfl) ?hyx4 (fun _ _ _ _ _ h => h) ?hSb4 ?hPb4 ?hS4 ?hop4 ?hfin4
 case haF4 =>
  intro vals
  simp only [fillAll, List.getElem?_cons_zero, List.getElem?_cons_succ, Act.put, List.setIfInBounds_toArray, List.set_cons_zero, List.set_cons_succ]
  exact rfl
 case hyx4 =>
  intro vals wr hS hd o ho
  obtain ⟨A_8_0, n_8_1, n_8_2, A_8_3, n_8_4, n_8_5, d8, h_8_0⟩ := hd 8 (by decide) (by decide)
  cases ho
  try dsimp only
  rw [d8]
  exact ⟨rfl, _, fun _ => rfl, rfl⟩
 case hSb4 => exact fun wx w2 hb hS => below_two hS hb
 case hPb4 =>
  intro k v wa wb hb h
  match k, h with
  | 0, h => exact h
  | 1, h => exact h
  | 2, h => exact h
  | 3, h => exact h
  | 4, h => exact h
  | 5, h => exact h
  | 6, h => exact h
  | 7, ⟨e0, e1, e2, e3, e4, e5, h1, g0⟩ => exact ⟨e0, e1, e2, e3, e4, e5, h1, g0.below hb⟩
  | 8, ⟨e0, e1, e2, e3, e4, e5, h1, g0⟩ => exact ⟨e0, e1, e2, e3, e4, e5, h1, g0.below hb⟩
  | 9, ⟨e0, e1, e2, e3, e4, e5, h1, g0⟩ => exact ⟨e0, e1, e2, e3, e4, e5, h1, g0.below hb⟩
  | 10, h => exact h
  | 11, h => exact h
  | 12, h => exact h
  | _ + 13, h => exact h
 case hS4 => exact (Below.refl _ _).drew
 case hop4 =>
  refine .cons (k := 0) (.plain rfl ?_) (.cons (k := 1) (.plain rfl ?_) (.cons (k := 2) (.plain rfl ?_) (.cons (k := 3) (.plain rfl ?_) (.cons (k := 4) (.plain rfl ?_) (.cons (k := 5) (.plain rfl ?_) (.cons (k := 6) (.plain rfl ?_) (.cons (k := 7) (.plain rfl ?_) (.cons (k := 8) (.plain rfl ?_) (.cons (k := 9) (.plain rfl ?_) (.cons (k := 10) (.plain rfl ?_) (.cons (k := 11) (.plain rfl ?_) (.cons (k := 12) (.plain rfl ?_) (.cons (k := 13) (.plain rfl ?_) (.nil))))))))))))))
  all_goals intro vals wr hS hd KC hK
  all_goals (show Oper.wp _ _ _ _ _ _; dsimp only)
  · go_simp
    refine hK _ _ rfl (Below.refl _ _) (by first | rfl | simp) (fun h => by cases h)
  · go_simp
    refine hK _ _ rfl (Below.refl _ _) (by first | rfl | simp) (fun h => by cases h)
  · have d1 : vals 1 = _ := hd 1 (by decide +kernel)
    rw [d1]
    go_simp
    refine hK _ _ rfl (Below.refl _ _) (by first | rfl | simp) (fun h => by cases h)
  · have d2 : vals 2 = _ := hd 2 (by decide +kernel)
    rw [d2]
    go_simp
    refine hK _ _ rfl (Below.refl _ _) (by first | rfl | simp) (fun h => by cases h)
  · have d3 : vals 3 = _ := hd 3 (by decide +kernel)
    rw [d3]
    go_simp
    refine hK _ _ rfl (Below.refl _ _) (by first | rfl | simp) (fun h => by cases h)
  · have d4 : vals 4 = _ := hd 4 (by decide +kernel)
    rw [d4]
    refine wp_loadV 33 _ rfl rb 3 (by kernel_rfl) #[.bool (sg (oTop (some p1))), .slice A n c, .slice B m d] (Lib.hid (rd_rat (HC.out.below hS))) (Lib.hid (many3 _ _ _)) ?_
    refine hK _ _ rfl (Below.refl _ _) (by first | rfl | simp) (fun h => by cases h)
  · refine wp_loadV 33 _ rfl _ _ rfl #[.bool (sg (oTop (some f1))), .slice Af nf cf, .slice Bf mf df] (Lib.hid (h_rf.below hS).inV) (Lib.hid (many3 _ _ _)) ?_
    refine hK _ _ rfl (Below.refl _ _) (by first | rfl | simp) (fun h => by cases h)
  · have d5 : vals 5 = _ := hd 5 (by decide +kernel)
    have d6 : vals 6 = _ := hd 6 (by decide +kernel)
    rw [d5, d6]
    go_simp
    go_at_call 26
    with_reducible refine (rMul_c (HQp.out.below hS) (HQf.out.below hS) (by decide) (by decide) (some z1) 0 hMulR.out).mono ?_
    rintro e w2 ⟨r0, r1, r2, r3, r4, r5, rfl, f0, bn_r⟩
    refine hK _ _ rfl bn_r ⟨_, _, _, _, _, _, rfl, f0⟩ (fun h => by cases h)
  · obtain ⟨A_7_0, n_7_1, n_7_2, A_7_3, n_7_4, n_7_5, d7, h_7_0⟩ := hd 7 (by decide +kernel)
    rw [d7]
    go_simp
    refine hK _ _ rfl (Below.refl _ _) ⟨_, _, _, _, _, _, rfl, h_7_0⟩ (fun h => by cases h)
  · obtain ⟨A_8_0, n_8_1, n_8_2, A_8_3, n_8_4, n_8_5, d8, h_8_0⟩ := hd 8 (by decide +kernel)
    rw [d8]
    go_simp
    refine hK _ _ rfl (Below.refl _ _) ⟨_, _, _, _, _, _, rfl, h_8_0⟩ (fun h => by cases h)
  · obtain ⟨A_8_0, n_8_1, n_8_2, A_8_3, n_8_4, n_8_5, d8, h_8_0⟩ := hd 8 (by decide +kernel)
    rw [d8]
    go_simp
    refine hK _ _ rfl (Below.refl _ _) rfl (fun h => by cases h)
  · have d0 : vals 0 = _ := hd 0 (by decide +kernel)
    rw [d0]
    go_simp
    refine hK _ _ rfl (Below.refl _ _) (by first | rfl | simp) (fun h => by cases h)
  · have d11 : vals 11 = _ := hd 11 (by decide +kernel)
    rw [d11]
    go_simp
    refine hK _ _ rfl (Below.refl _ _) (by first | rfl | simp) (fun h => by cases h)
  · have d12 : vals 12 = _ := hd 12 (by decide +kernel)
    rw [d12]
    go_simp
    refine hK _ _ rfl (Below.refl _ _) (by first | rfl | simp) (fun h => by cases h)
 case hfin4 =>
  intro vals wr hS hP hne
  have ez_13 : vals 13 = _ := hP 13 (by decide)
  obtain ⟨A_9_0, n_9_1, n_9_2, A_9_3, n_9_4, n_9_5, ez_9, h_9_0⟩ := hP 9 (by decide)
  have ez_10 : vals 10 = _ := hP 10 (by decide)
  have hC := HC.out.below hS
  have hC2 := Lib.hid (hC.rat (a' := sg (oTop (some z1))) (A' := A_9_0) (n' := n_9_1) (c' := n_9_2) (B' := A_9_3) (m' := n_9_4) (d' := n_9_5))
  have hg2 := grown_cells (b := rb) [.bool (sg (oTop (some z1))), .slice A_9_0 n_9_1 n_9_2, .slice A_9_3 n_9_4 n_9_5] wr 3
  have hQ2 := Lib.hid (QT.over hC (rd_noughts) hg2 h_9_0)
  have hG2 := Lib.hid (grown_trans (grown_trans HG.out (grown_of hS (some rb))) hg2)
  have hX2 := Lib.hid (RowA.onward (RowA.below h_rx.out hS) hg2 hnx.out)
  clear hC hg2
  have HI := Lib.hid (uV_dim hX2.out)
  have HM7 := Lib.hid (many7 HLU.out)
  try dsimp only
  rw [ez_13, ez_9, ez_10]
  refine wpAny_ready (rs := [14]) (by kernel_rfl) (by simp) (AllReady.cons rfl (fun KC hK => ?_) AllReady.nil)
  refine wp_store_mid 33 _ _ rfl rb 3 #[.bool (sg (oTop (some z1))), .slice A_9_0 n_9_1 n_9_2, .slice A_9_3 n_9_4 n_9_5] rfl rfl (rd_there (HC.out.below hS) 3 3 (by omega)) (by kernel_rfl) (by simp [Value.oneCell']) ?_
  refine hK _ _ ?_
  clear hK KC
  try dsimp only [Act.put]
  refine wpAny_ready (rs := [15]) (by kernel_rfl) (by simp) (AllReady.cons rfl (fun KC hK => ?_) AllReady.nil)
  go_simp
  refine hK _ _ ?_
  clear hK KC
  refine wpAny_done (by kernel_rfl) ?_ _
  go_wp2_with (refine wpList_loadV (by rfl) _ _ (by rfl) _ _ (by rfl) _ (by assumption) (by assumption) ?_)
  clear HI HM7
  generalize wr.setCells rb 3 [.bool (sg (oTop (some z1))), .slice A_9_0 n_9_1 n_9_2, .slice A_9_3 n_9_4 n_9_5] = w5 at *
  refine (dPow_c HLU.out HU64.out k hk0.out hk1.out R 0 hPowD.out).mono ?_
  rintro e w6 ⟨rfl, bn⟩
  have h_rg := rowA_new w6 35 (dimV R)
  have bm := below_new w6 (.cells (dimV R) 35)
  have bk := below_two bn bm
  have hC3 := Lib.hid (hC2.out.below bk)
  have hQ3 := Lib.hid (hQ2.out.below bk)
  have hG3 := Lib.hid (grown_trans hG2.out (grown_of bk (some rb)))
  have HU := Lib.hid (fits7 HLR.out)
  clear hC2 hQ2 hG2 bn bm bk
  go_wp2_with (refine wpList_storeNew (by rfl) _ _ _ (by rfl) _ _ _ (by rfl) (by rfl) (by assumption) ?_)
  generalize w6.alloc (.cells (dimV R) 35) = wT at *
  obtain ⟨qg, eq⟩ : ∃ g, g = w6.heap.size := ⟨_, rfl⟩
  rw [← eq] at h_rg
  rw [← eq]
  clear eq
  refine region_freex 14 2 10 [45, 46, 47, 48, 49, 50, 51, 52, 44, 53, 54, 55, 56, 57] ?aF3 (fun wx => Below wT.heap.size wT wx) (fun k vv wx => match k with
   | 0 => vv = .pointer (some ⟨rb, 0, none⟩)
   | 1 => vv = .pointer (some ⟨rb, 0, none⟩)
   | 2 => vv = .pointer (some ⟨rb, 0, none⟩)
   | 3 => vv = .pointer (some ⟨rb, 3, none⟩)
   | 4 => vv = .pointer (some ⟨rb, 6, none⟩)
   | 5 => vv = .agg (dimV xs)
   | 6 => vv = .agg (dimV R)
   | 7 => vv = .tuple #[.agg (dimV dim0), .int .i64 2]
   | 8 => vv = .tuple #[.agg (dimV dim0), .int .i64 2]
   | 9 => vv = .agg (dimV dim0)
   | 10 => vv = .int .i64 2
   | 11 => vv = .pointer (some ⟨rb, 0, none⟩)
   | 12 => vv = .pointer (some ⟨rb, 3, none⟩)
   | _ => vv = .pointer (some ⟨rb, 6, none⟩))
   (fun k => false) (by kernel_rfl) ?haF3 rfl (by kernel_rfl) (by kernel_rfl) (by decide) rfl (by kernel_rfl) (by kernel_rfl) ?hyx3 (fun _ _ _ _ _ h => h) ?hSb3 ?hPb3 ?hS3 ?hop3 ?hfin3
  case haF3 =>
   intro vals
   simp only [fillAll, List.getElem?_cons_zero, List.getElem?_cons_succ, Act.put, List.setIfInBounds_toArray, List.set_cons_zero, List.set_cons_succ]
   exact rfl
  case hyx3 =>
   intro vals wr hS hd o ho
   have d8 : vals 8 = _ := hd 8 (by decide) (by decide)
   cases ho
   try dsimp only
   rw [d8]
   exact ⟨rfl, _, fun _ => rfl, rfl⟩
  case hSb3 => exact fun wx w2 hb hS => below_two hS hb
  case hPb3 =>
   intro k v wa wb hb h
   match k, h with
   | 0, h => exact h
   | 1, h => exact h
   | 2, h => exact h
   | 3, h => exact h
   | 4, h => exact h
   | 5, h => exact h
   | 6, h => exact h
   | 7, h => exact h
   | 8, h => exact h
   | 9, h => exact h
   | 10, h => exact h
   | 11, h => exact h
   | 12, h => exact h
   | _ + 13, h => exact h
  case hS3 => exact (Below.refl _ _).drew
  case hop3 =>
   refine .cons (k := 0) (.plain rfl ?_) (.cons (k := 1) (.plain rfl ?_) (.cons (k := 2) (.plain rfl ?_) (.cons (k := 3) (.plain rfl ?_) (.cons (k := 4) (.plain rfl ?_) (.cons (k := 5) (.plain rfl ?_) (.cons (k := 6) (.plain rfl ?_) (.cons (k := 7) (.plain rfl ?_) (.cons (k := 8) (.plain rfl ?_) (.cons (k := 9) (.plain rfl ?_) (.cons (k := 10) (.plain rfl ?_) (.cons (k := 11) (.plain rfl ?_) (.cons (k := 12) (.plain rfl ?_) (.cons (k := 13) (.plain rfl ?_) (.nil))))))))))))))
   all_goals intro vals wr hS hd KC hK
   all_goals (show Oper.wp _ _ _ _ _ _; dsimp only)
   · go_simp
     refine hK _ _ rfl (Below.refl _ _) (by first | rfl | simp) (fun h => by cases h)
   · go_simp
     refine hK _ _ rfl (Below.refl _ _) (by first | rfl | simp) (fun h => by cases h)
   · have d1 : vals 1 = _ := hd 1 (by decide +kernel)
     rw [d1]
     go_simp
     refine hK _ _ rfl (Below.refl _ _) (by first | rfl | simp) (fun h => by cases h)
   · have d2 : vals 2 = _ := hd 2 (by decide +kernel)
     rw [d2]
     go_simp
     refine hK _ _ rfl (Below.refl _ _) (by first | rfl | simp) (fun h => by cases h)
   · have d3 : vals 3 = _ := hd 3 (by decide +kernel)
     rw [d3]
     go_simp
     refine hK _ _ rfl (Below.refl _ _) (by first | rfl | simp) (fun h => by cases h)
   · have d4 : vals 4 = _ := hd 4 (by decide +kernel)
     rw [d4]
     refine wp_loadV 35 _ rfl rb 6 (by kernel_rfl) (dimV xs) (Lib.hid (rd_dim (hC3.out.below hS))) (Lib.hid (many7 HLX.out)) ?_
     refine hK _ _ rfl (Below.refl _ _) (by first | rfl | simp) (fun h => by cases h)
   · refine wp_loadV 35 _ rfl _ _ rfl (dimV R) (Lib.hid (h_rg.below hS).inV) (Lib.hid (many7 HLR.out)) ?_
     refine hK _ _ rfl (Below.refl _ _) (by first | rfl | simp) (fun h => by cases h)
   · have d5 : vals 5 = _ := hd 5 (by decide +kernel)
     have d6 : vals 6 = _ := hd 6 (by decide +kernel)
     rw [d5, d6]
     go_simp
     go_at_call 25
     with_reducible refine (dMul_c HLX.out HX64.out HLR.out HR64.out dim0 2 hMulD.out).mono ?_
     rintro e w2 ⟨rfl, bn_r⟩
     refine hK _ _ rfl bn_r rfl (fun h => by cases h)
   · have d7 : vals 7 = _ := hd 7 (by decide +kernel)
     rw [d7]
     go_simp
     refine hK _ _ rfl (Below.refl _ _) (by first | rfl | simp) (fun h => by cases h)
   · have d8 : vals 8 = _ := hd 8 (by decide +kernel)
     rw [d8]
     go_simp
     refine hK _ _ rfl (Below.refl _ _) rfl (fun h => by cases h)
   · have d8 : vals 8 = _ := hd 8 (by decide +kernel)
     rw [d8]
     go_simp
     refine hK _ _ rfl (Below.refl _ _) rfl (fun h => by cases h)
   · have d0 : vals 0 = _ := hd 0 (by decide +kernel)
     rw [d0]
     go_simp
     refine hK _ _ rfl (Below.refl _ _) (by first | rfl | simp) (fun h => by cases h)
   · have d11 : vals 11 = _ := hd 11 (by decide +kernel)
     rw [d11]
     go_simp
     refine hK _ _ rfl (Below.refl _ _) (by first | rfl | simp) (fun h => by cases h)
   · have d12 : vals 12 = _ := hd 12 (by decide +kernel)
     rw [d12]
     go_simp
     refine hK _ _ rfl (Below.refl _ _) (by first | rfl | simp) (fun h => by cases h)
  case hfin3 =>
   intro vals wr hS hP hne
   have ez_13 : vals 13 = _ := hP 13 (by decide)
   have ez_9 : vals 9 = _ := hP 9 (by decide)
   have ez_10 : vals 10 = _ := hP 10 (by decide)
   have hC := hC3.out.below hS
   have hC4 := Lib.hid (hC.dim HLX.out HLS.out)
   have hg4 := grown_cells (b := rb) (dimV dim0).toList wr 6
   have hQ4 := Lib.hid (QT.over hC (rd_noughts) hg4 (hQ3.out.below hS))
   have hG4 := Lib.hid (grown_trans (grown_trans hG3.out (grown_of hS (some rb))) hg4)
   clear hC hg4
   try dsimp only
   rw [ez_13, ez_9, ez_10]
   refine wpAny_ready (rs := [14]) (by kernel_rfl) (by simp) (AllReady.cons rfl (fun KC hK => ?_) AllReady.nil)
   refine wp_store_mid 35 _ _ rfl rb 6 (dimV dim0) rfl rfl (by rw [size_dimV HLS.out]; exact rd_there (hC3.out.below hS) 6 7 (by have := HLX.out; omega)) (size_info (size_dimV HLS.out)) (Array.all_eq_true_iff_forall_mem.2 dimV_one) ?_
   refine hK _ _ ?_
   clear hK KC
   try dsimp only [Act.put]
   refine wpAny_ready (rs := [15]) (by kernel_rfl) (by simp) (AllReady.cons rfl (fun KC hK => ?_) AllReady.nil)
   go_simp
   refine hK _ _ ?_
   clear hK KC
   refine wpAny_done (by kernel_rfl) ?_ _
   go_wp2
   go_ret
   exact ⟨rfl, hG4.out⟩
set_option maxHeartbeats 4000000 in
set_option maxRecDepth 100000 in
theorem tMul_E (h : Rd w rb mb s i (uL (sg (oTop (some p1))) A n c B m d xs)) (hp : QT w A n c B m d (some p1)) (hu : QT w Au nu cu Bu mu du (some u1)) (hxs : xs.length = 7) (hus : us.length = 7) (k : Int) (hPow : Hid (powR (some u1) k = (some f1, 0))) (hMulR : Hid (mulR (some p1) (some f1) = (some z1, 0))) (HU64 : Hid (I64 us)) (hk0 : Hid (-9223372036854775808 ≤ k)) (hk1 : Hid (k ≤ 9223372036854775807)) (R : List Int) (HLR : Hid (R.length = 7)) (hPowD : Hid (powD us k = (R, 0))) (HX64 : Hid (I64 xs)) (HR64 : Hid (I64 R)) (HLS : Hid (S.length = 7)) (hMulD : Hid (mulD xs R = (S, 0))) :
 Calls Tryz.prog 116 #[.pointer (some ⟨rb, 0, none⟩), .agg (uV (sg (oTop (some u1))) Au nu cu Bu mu du us), .int .i64 k] w fun e w' => e = .returned (.bool true) ∧ (∃ A n c B m d, Rd w' rb mb s i (uL (sg (oTop (some z1))) A n c B m d S) ∧ QT w' A n c B m d (some z1)) ∧ w.grownBy w' (some rb) := by
 have bw := below_new w (.cells (uV (sg (oTop (some u1))) Au nu cu Bu mu du us) 37)
 have h_rx := rowA_new w 37 (uV (sg (oTop (some u1))) Au nu cu Bu mu du us)
 have HI := Lib.hid (uV_rat h_rx)
 have HM3 := Lib.hid (many3 (.bool (sg (oTop (some u1)))) (.slice Au nu cu) (.slice Bu mu du))
 have HC := Lib.hid (h.below bw)
 have HQp := Lib.hid (hp.below bw)
 have HQu := Lib.hid (hu.below bw)
 have HG := Lib.hid (grown_of bw (some rb))
 have hn0 : rb ≠ w.heap.size := by have := h.lt; omega
 have HLX := Lib.hid hxs
 have HLU := Lib.hid hus
 clear h hp hu bw hxs hus
 go_enter Tryz.func116, Tryz.ntmps116
 go_wp2_with (refine wpList_loadV (by rfl) _ _ (by rfl) _ _ (by rfl) _ (by assumption) (by assumption) ?_)
 clear HI HM3
 generalize w.alloc (.cells (uV (sg (oTop (some u1))) Au nu cu Bu mu du us) 37) = w1 at *
 obtain ⟨qx, eq⟩ : ∃ g, g = w.heap.size := ⟨_, rfl⟩
 rw [← eq] at h_rx hn0 ⊢
 have hqx : Hid (w.heap.size ≤ qx) := by show _ ≤ _; omega
 have hnx := Lib.hid hn0
 clear eq hn0
 refine (pOf_c HQu.out (by decide) k (some f1) 0 hPow.out).mono ?_
 rintro e w2 ⟨Af, nf, cf, Bf, mf, df, rfl, hqf, bn⟩
 have hC := HC.out.below bn
 have hQp := HQp.out.below bn
 have hrx := RowA.below h_rx bn
 have hG := grown_trans HG.out (grown_of bn (some rb))
 clear HC HQp HQu HG h_rx bn
 have h_rf := rowA_new w2 33 #[.bool (sg (oTop (some f1))), .slice Af nf cf, .slice Bf mf df]
 have bn := below_new w2 (.cells #[.bool (sg (oTop (some f1))), .slice Af nf cf, .slice Bf mf df] 33)
 have HC := Lib.hid (hC.below bn)
 have HQp := Lib.hid (hQp.below bn)
 have HQf := Lib.hid (hqf.below bn)
 have h_rx := Lib.hid (RowA.below hrx bn)
 have HG := Lib.hid (grown_trans hG (grown_of bn (some rb)))
 have HU := Lib.hid (fits3 (s := sg (oTop (some f1))) (A := Af) (n := nf) (c := cf) (B := Bf) (m := mf) (d := df))
 clear hC hQp hqf hrx hG bn
 go_wp2_with (first | (refine wpList_loadV (by rfl) _ _ (by rfl) _ _ (by rfl) _ (by assumption) (by assumption) ?_) | (refine wpList_storeNew (by rfl) _ _ _ (by rfl) _ _ _ (by rfl) (by rfl) (by assumption) ?_))
 generalize w2.alloc (.cells #[.bool (sg (oTop (some f1))), .slice Af nf cf, .slice Bf mf df] 33) = wS at *
 obtain ⟨qf, eq⟩ : ∃ g, g = w2.heap.size := ⟨_, rfl⟩
 rw [← eq] at h_rf
 rw [← eq]
 clear eq
 refine region_freex 14 2 10 [20, 21, 22, 23, 24, 25, 26, 27, 19, 28, 29, 30, 31, 32] ?aF6 (fun wx => Below wS.heap.size wS wx) (fun k vv wx => match k with
  | 0 => vv = .pointer (some ⟨rb, 0, none⟩)
  | 1 => vv = .pointer (some ⟨rb, 0, none⟩)
  | 2 => vv = .pointer (some ⟨rb, 0, none⟩)
  | 3 => vv = .pointer (some ⟨rb, 3, none⟩)
  | 4 => vv = .pointer (some ⟨rb, 3, none⟩)
  | 5 => vv = .agg #[.bool (sg (oTop (some p1))), .slice A n c, .slice B m d]
  | 6 => vv = .agg #[.bool (sg (oTop (some f1))), .slice Af nf cf, .slice Bf mf df]
  | 7 => ∃ (e0 : Option Addr) (e1 : Nat) (e2 : Nat) (e3 : Option Addr) (e4 : Nat) (e5 : Nat), vv = .tuple #[.agg #[.bool (sg (oTop (some z1))), .slice e0 e1 e2, .slice e3 e4 e5], .int .i64 0] ∧ QT wx e0 e1 e2 e3 e4 e5 (some z1)
  | 8 => ∃ (e0 : Option Addr) (e1 : Nat) (e2 : Nat) (e3 : Option Addr) (e4 : Nat) (e5 : Nat), vv = .tuple #[.agg #[.bool (sg (oTop (some z1))), .slice e0 e1 e2, .slice e3 e4 e5], .int .i64 0] ∧ QT wx e0 e1 e2 e3 e4 e5 (some z1)
  | 9 => ∃ (e0 : Option Addr) (e1 : Nat) (e2 : Nat) (e3 : Option Addr) (e4 : Nat) (e5 : Nat), vv = .agg #[.bool (sg (oTop (some z1))), .slice e0 e1 e2, .slice e3 e4 e5] ∧ QT wx e0 e1 e2 e3 e4 e5 (some z1)
  | 10 => vv = .int .i64 0
  | 11 => vv = .pointer (some ⟨rb, 0, none⟩)
  | 12 => vv = .pointer (some ⟨rb, 3, none⟩)
  | _ => vv = .pointer (some ⟨rb, 3, none⟩))
  (fun k => false) (by kernel_rfl) ?haF6 rfl (by kernel_rfl) (by kernel_rfl) (by decide) rfl (by kernel_rfl) (by kernel_rfl) ?hyx6 (fun _ _ _ _ _ h => h) ?hSb6 ?hPb6 ?hS6 ?hop6 ?hfin6
 case haF6 =>
  intro vals
  simp only [fillAll, List.getElem?_cons_zero, List.getElem?_cons_succ, Act.put, List.setIfInBounds_toArray, List.set_cons_zero, List.set_cons_succ]
  exact rfl
 case hyx6 =>
  intro vals wr hS hd o ho
  obtain ⟨A_8_0, n_8_1, n_8_2, A_8_3, n_8_4, n_8_5, d8, h_8_0⟩ := hd 8 (by decide) (by decide)
  cases ho
  try dsimp only
  rw [d8]
  exact ⟨rfl, _, fun _ => rfl, rfl⟩
 case hSb6 => exact fun wx w2 hb hS => below_two hS hb
 case hPb6 =>
  intro k v wa wb hb h
  match k, h with
  | 0, h => exact h
  | 1, h => exact h
  | 2, h => exact h
  | 3, h => exact h
  | 4, h => exact h
  | 5, h => exact h
  | 6, h => exact h
  | 7, ⟨e0, e1, e2, e3, e4, e5, h1, g0⟩ => exact ⟨e0, e1, e2, e3, e4, e5, h1, g0.below hb⟩
  | 8, ⟨e0, e1, e2, e3, e4, e5, h1, g0⟩ => exact ⟨e0, e1, e2, e3, e4, e5, h1, g0.below hb⟩
  | 9, ⟨e0, e1, e2, e3, e4, e5, h1, g0⟩ => exact ⟨e0, e1, e2, e3, e4, e5, h1, g0.below hb⟩
  | 10, h => exact h
  | 11, h => exact h
  | 12, h => exact h
  | _ + 13, h => exact h
 case hS6 => exact (Below.refl _ _).drew
 case hop6 =>
  refine .cons (k := 0) (.plain rfl ?_) (.cons (k := 1) (.plain rfl ?_) (.cons (k := 2) (.plain rfl ?_) (.cons (k := 3) (.plain rfl ?_) (.cons (k := 4) (.plain rfl ?_) (.cons (k := 5) (.plain rfl ?_) (.cons (k := 6) (.plain rfl ?_) (.cons (k := 7) (.plain rfl ?_) (.cons (k := 8) (.plain rfl ?_) (.cons (k := 9) (.plain rfl ?_) (.cons (k := 10) (.plain rfl ?_) (.cons (k := 11) (.plain rfl ?_) (.cons (k := 12) (.plain rfl ?_) (.cons (k := 13) (.plain rfl ?_) (.nil))))))))))))))
  all_goals intro vals wr hS hd KC hK
  all_goals (show Oper.wp _ _ _ _ _ _; dsimp only)
  · go_simp
    refine hK _ _ rfl (Below.refl _ _) (by first | rfl | simp) (fun h => by cases h)
  · go_simp
    refine hK _ _ rfl (Below.refl _ _) (by first | rfl | simp) (fun h => by cases h)
  · have d1 : vals 1 = _ := hd 1 (by decide +kernel)
    rw [d1]
    go_simp
    refine hK _ _ rfl (Below.refl _ _) (by first | rfl | simp) (fun h => by cases h)
  · have d2 : vals 2 = _ := hd 2 (by decide +kernel)
    rw [d2]
    go_simp
    refine hK _ _ rfl (Below.refl _ _) (by first | rfl | simp) (fun h => by cases h)
  · have d3 : vals 3 = _ := hd 3 (by decide +kernel)
    rw [d3]
    go_simp
    refine hK _ _ rfl (Below.refl _ _) (by first | rfl | simp) (fun h => by cases h)
  · have d4 : vals 4 = _ := hd 4 (by decide +kernel)
    rw [d4]
    refine wp_loadV 33 _ rfl rb 3 (by kernel_rfl) #[.bool (sg (oTop (some p1))), .slice A n c, .slice B m d] (Lib.hid (rd_rat (HC.out.below hS))) (Lib.hid (many3 _ _ _)) ?_
    refine hK _ _ rfl (Below.refl _ _) (by first | rfl | simp) (fun h => by cases h)
  · refine wp_loadV 33 _ rfl _ _ rfl #[.bool (sg (oTop (some f1))), .slice Af nf cf, .slice Bf mf df] (Lib.hid (h_rf.below hS).inV) (Lib.hid (many3 _ _ _)) ?_
    refine hK _ _ rfl (Below.refl _ _) (by first | rfl | simp) (fun h => by cases h)
  · have d5 : vals 5 = _ := hd 5 (by decide +kernel)
    have d6 : vals 6 = _ := hd 6 (by decide +kernel)
    rw [d5, d6]
    go_simp
    go_at_call 26
    with_reducible refine (rMul_c (HQp.out.below hS) (HQf.out.below hS) (by decide) (by decide) (some z1) 0 hMulR.out).mono ?_
    rintro e w2 ⟨r0, r1, r2, r3, r4, r5, rfl, f0, bn_r⟩
    refine hK _ _ rfl bn_r ⟨_, _, _, _, _, _, rfl, f0⟩ (fun h => by cases h)
  · obtain ⟨A_7_0, n_7_1, n_7_2, A_7_3, n_7_4, n_7_5, d7, h_7_0⟩ := hd 7 (by decide +kernel)
    rw [d7]
    go_simp
    refine hK _ _ rfl (Below.refl _ _) ⟨_, _, _, _, _, _, rfl, h_7_0⟩ (fun h => by cases h)
  · obtain ⟨A_8_0, n_8_1, n_8_2, A_8_3, n_8_4, n_8_5, d8, h_8_0⟩ := hd 8 (by decide +kernel)
    rw [d8]
    go_simp
    refine hK _ _ rfl (Below.refl _ _) ⟨_, _, _, _, _, _, rfl, h_8_0⟩ (fun h => by cases h)
  · obtain ⟨A_8_0, n_8_1, n_8_2, A_8_3, n_8_4, n_8_5, d8, h_8_0⟩ := hd 8 (by decide +kernel)
    rw [d8]
    go_simp
    refine hK _ _ rfl (Below.refl _ _) rfl (fun h => by cases h)
  · have d0 : vals 0 = _ := hd 0 (by decide +kernel)
    rw [d0]
    go_simp
    refine hK _ _ rfl (Below.refl _ _) (by first | rfl | simp) (fun h => by cases h)
  · have d11 : vals 11 = _ := hd 11 (by decide +kernel)
    rw [d11]
    go_simp
    refine hK _ _ rfl (Below.refl _ _) (by first | rfl | simp) (fun h => by cases h)
  · have d12 : vals 12 = _ := hd 12 (by decide +kernel)
    rw [d12]
    go_simp
    refine hK _ _ rfl (Below.refl _ _) (by first | rfl | simp) (fun h => by cases h)
 case hfin6 =>
  intro vals wr hS hP hne
  have ez_13 : vals 13 = _ := hP 13 (by decide)
  obtain ⟨A_9_0, n_9_1, n_9_2, A_9_3, n_9_4, n_9_5, ez_9, h_9_0⟩ := hP 9 (by decide)
  have ez_10 : vals 10 = _ := hP 10 (by decide)
  have hC := HC.out.below hS
  have hC2 := Lib.hid (hC.rat (a' := sg (oTop (some z1))) (A' := A_9_0) (n' := n_9_1) (c' := n_9_2) (B' := A_9_3) (m' := n_9_4) (d' := n_9_5))
  have hg2 := grown_cells (b := rb) [.bool (sg (oTop (some z1))), .slice A_9_0 n_9_1 n_9_2, .slice A_9_3 n_9_4 n_9_5] wr 3
  have hQ2 := Lib.hid (QT.over hC (rd_noughts) hg2 h_9_0)
  have hG2 := Lib.hid (grown_trans (grown_trans HG.out (grown_of hS (some rb))) hg2)
  have hX2 := Lib.hid (RowA.onward (RowA.below h_rx.out hS) hg2 hnx.out)
  clear hC hg2
  have HI := Lib.hid (uV_dim hX2.out)
  have HM7 := Lib.hid (many7 HLU.out)
  try dsimp only
  rw [ez_13, ez_9, ez_10]
  refine wpAny_ready (rs := [14]) (by kernel_rfl) (by simp) (AllReady.cons rfl (fun KC hK => ?_) AllReady.nil)
  refine wp_store_mid 33 _ _ rfl rb 3 #[.bool (sg (oTop (some z1))), .slice A_9_0 n_9_1 n_9_2, .slice A_9_3 n_9_4 n_9_5] rfl rfl (rd_there (HC.out.below hS) 3 3 (by omega)) (by kernel_rfl) (by simp [Value.oneCell']) ?_
  refine hK _ _ ?_
  clear hK KC
  try dsimp only [Act.put]
  refine wpAny_ready (rs := [15]) (by kernel_rfl) (by simp) (AllReady.cons rfl (fun KC hK => ?_) AllReady.nil)
  go_simp
  refine hK _ _ ?_
  clear hK KC
  refine wpAny_done (by kernel_rfl) ?_ _
  go_wp2_with (refine wpList_loadV (by rfl) _ _ (by rfl) _ _ (by rfl) _ (by assumption) (by assumption) ?_)
  clear HI HM7
  generalize wr.setCells rb 3 [.bool (sg (oTop (some z1))), .slice A_9_0 n_9_1 n_9_2, .slice A_9_3 n_9_4 n_9_5] = w5 at *
  refine (dPow_c HLU.out HU64.out k hk0.out hk1.out R 0 hPowD.out).mono ?_
  rintro e w6 ⟨rfl, bn⟩
  have h_rg := rowA_new w6 35 (dimV R)
  have bm := below_new w6 (.cells (dimV R) 35)
  have bk := below_two bn bm
  have hC3 := Lib.hid (hC2.out.below bk)
  have hQ3 := Lib.hid (hQ2.out.below bk)
  have hG3 := Lib.hid (grown_trans hG2.out (grown_of bk (some rb)))
  have HU := Lib.hid (fits7 HLR.out)
  clear hC2 hQ2 hG2 bn bm bk
  go_wp2_with (refine wpList_storeNew (by rfl) _ _ _ (by rfl) _ _ _ (by rfl) (by rfl) (by assumption) ?_)
  generalize w6.alloc (.cells (dimV R) 35) = wT at *
  obtain ⟨qg, eq⟩ : ∃ g, g = w6.heap.size := ⟨_, rfl⟩
  rw [← eq] at h_rg
  rw [← eq]
  clear eq
  refine region_freex 14 2 10 [45, 46, 47, 48, 49, 50, 51, 52, 44, 53, 54, 55, 56, 57] ?aF5 (fun wx => Below wT.heap.size wT wx) (fun k vv wx => match k with
   | 0 => vv = .pointer (some ⟨rb, 0, none⟩)
   | 1 => vv = .pointer (some ⟨rb, 0, none⟩)
   | 2 => vv = .pointer (some ⟨rb, 0, none⟩)
   | 3 => vv = .pointer (some ⟨rb, 3, none⟩)
   | 4 => vv = .pointer (some ⟨rb, 6, none⟩)
   | 5 => vv = .agg (dimV xs)
   | 6 => vv = .agg (dimV R)
   | 7 => vv = .tuple #[.agg (dimV S), .int .i64 0]
   | 8 => vv = .tuple #[.agg (dimV S), .int .i64 0]
   | 9 => vv = .agg (dimV S)
   | 10 => vv = .int .i64 0
   | 11 => vv = .pointer (some ⟨rb, 0, none⟩)
   | 12 => vv = .pointer (some ⟨rb, 3, none⟩)
   | _ => vv = .pointer (some ⟨rb, 6, none⟩))
   (fun k => false) (by kernel_rfl) ?haF5 rfl (by kernel_rfl) (by kernel_rfl) (by decide) rfl (by kernel_rfl) (by kernel_rfl) ?hyx5 (fun _ _ _ _ _ h => h) ?hSb5 ?hPb5 ?hS5 ?hop5 ?hfin5
  case haF5 =>
   intro vals
   simp only [fillAll, List.getElem?_cons_zero, List.getElem?_cons_succ, Act.put, List.setIfInBounds_toArray, List.set_cons_zero, List.set_cons_succ]
   exact rfl
  case hyx5 =>
   intro vals wr hS hd o ho
   have d8 : vals 8 = _ := hd 8 (by decide) (by decide)
   cases ho
   try dsimp only
   rw [d8]
   exact ⟨rfl, _, fun _ => rfl, rfl⟩
  case hSb5 => exact fun wx w2 hb hS => below_two hS hb
  case hPb5 =>
   intro k v wa wb hb h
   match k, h with
   | 0, h => exact h
   | 1, h => exact h
   | 2, h => exact h
   | 3, h => exact h
   | 4, h => exact h
   | 5, h => exact h
   | 6, h => exact h
   | 7, h => exact h
   | 8, h => exact h
   | 9, h => exact h
   | 10, h => exact h
   | 11, h => exact h
   | 12, h => exact h
   | _ + 13, h => exact h
  case hS5 => exact (Below.refl _ _).drew
  case hop5 =>
   refine .cons (k := 0) (.plain rfl ?_) (.cons (k := 1) (.plain rfl ?_) (.cons (k := 2) (.plain rfl ?_) (.cons (k := 3) (.plain rfl ?_) (.cons (k := 4) (.plain rfl ?_) (.cons (k := 5) (.plain rfl ?_) (.cons (k := 6) (.plain rfl ?_) (.cons (k := 7) (.plain rfl ?_) (.cons (k := 8) (.plain rfl ?_) (.cons (k := 9) (.plain rfl ?_) (.cons (k := 10) (.plain rfl ?_) (.cons (k := 11) (.plain rfl ?_) (.cons (k := 12) (.plain rfl ?_) (.cons (k := 13) (.plain rfl ?_) (.nil))))))))))))))
   all_goals intro vals wr hS hd KC hK
   all_goals (show Oper.wp _ _ _ _ _ _; dsimp only)
   · go_simp
     refine hK _ _ rfl (Below.refl _ _) (by first | rfl | simp) (fun h => by cases h)
   · go_simp
     refine hK _ _ rfl (Below.refl _ _) (by first | rfl | simp) (fun h => by cases h)
   · have d1 : vals 1 = _ := hd 1 (by decide +kernel)
     rw [d1]
     go_simp
     refine hK _ _ rfl (Below.refl _ _) (by first | rfl | simp) (fun h => by cases h)
   · have d2 : vals 2 = _ := hd 2 (by decide +kernel)
     rw [d2]
     go_simp
     refine hK _ _ rfl (Below.refl _ _) (by first | rfl | simp) (fun h => by cases h)
   · have d3 : vals 3 = _ := hd 3 (by decide +kernel)
     rw [d3]
     go_simp
     refine hK _ _ rfl (Below.refl _ _) (by first | rfl | simp) (fun h => by cases h)
   · have d4 : vals 4 = _ := hd 4 (by decide +kernel)
     rw [d4]
     refine wp_loadV 35 _ rfl rb 6 (by kernel_rfl) (dimV xs) (Lib.hid (rd_dim (hC3.out.below hS))) (Lib.hid (many7 HLX.out)) ?_
     refine hK _ _ rfl (Below.refl _ _) (by first | rfl | simp) (fun h => by cases h)
   · refine wp_loadV 35 _ rfl _ _ rfl (dimV R) (Lib.hid (h_rg.below hS).inV) (Lib.hid (many7 HLR.out)) ?_
     refine hK _ _ rfl (Below.refl _ _) (by first | rfl | simp) (fun h => by cases h)
   · have d5 : vals 5 = _ := hd 5 (by decide +kernel)
     have d6 : vals 6 = _ := hd 6 (by decide +kernel)
     rw [d5, d6]
     go_simp
     go_at_call 25
     with_reducible refine (dMul_c HLX.out HX64.out HLR.out HR64.out S 0 hMulD.out).mono ?_
     rintro e w2 ⟨rfl, bn_r⟩
     refine hK _ _ rfl bn_r rfl (fun h => by cases h)
   · have d7 : vals 7 = _ := hd 7 (by decide +kernel)
     rw [d7]
     go_simp
     refine hK _ _ rfl (Below.refl _ _) (by first | rfl | simp) (fun h => by cases h)
   · have d8 : vals 8 = _ := hd 8 (by decide +kernel)
     rw [d8]
     go_simp
     refine hK _ _ rfl (Below.refl _ _) rfl (fun h => by cases h)
   · have d8 : vals 8 = _ := hd 8 (by decide +kernel)
     rw [d8]
     go_simp
     refine hK _ _ rfl (Below.refl _ _) rfl (fun h => by cases h)
   · have d0 : vals 0 = _ := hd 0 (by decide +kernel)
     rw [d0]
     go_simp
     refine hK _ _ rfl (Below.refl _ _) (by first | rfl | simp) (fun h => by cases h)
   · have d11 : vals 11 = _ := hd 11 (by decide +kernel)
     rw [d11]
     go_simp
     refine hK _ _ rfl (Below.refl _ _) (by first | rfl | simp) (fun h => by cases h)
   · have d12 : vals 12 = _ := hd 12 (by decide +kernel)
     rw [d12]
     go_simp
     refine hK _ _ rfl (Below.refl _ _) (by first | rfl | simp) (fun h => by cases h)
  case hfin5 =>
   intro vals wr hS hP hne
   have ez_13 : vals 13 = _ := hP 13 (by decide)
   have ez_9 : vals 9 = _ := hP 9 (by decide)
   have ez_10 : vals 10 = _ := hP 10 (by decide)
   have hC := hC3.out.below hS
   have hC4 := Lib.hid (hC.dim HLX.out HLS.out)
   have hg4 := grown_cells (b := rb) (dimV S).toList wr 6
   have hQ4 := Lib.hid (QT.over hC (rd_noughts) hg4 (hQ3.out.below hS))
   have hG4 := Lib.hid (grown_trans (grown_trans hG3.out (grown_of hS (some rb))) hg4)
   clear hC hg4
   try dsimp only
   rw [ez_13, ez_9, ez_10]
   refine wpAny_ready (rs := [14]) (by kernel_rfl) (by simp) (AllReady.cons rfl (fun KC hK => ?_) AllReady.nil)
   refine wp_store_mid 35 _ _ rfl rb 6 (dimV S) rfl rfl (by rw [size_dimV HLS.out]; exact rd_there (hC3.out.below hS) 6 7 (by have := HLX.out; omega)) (size_info (size_dimV HLS.out)) (Array.all_eq_true_iff_forall_mem.2 dimV_one) ?_
   refine hK _ _ ?_
   clear hK KC
   try dsimp only [Act.put]
   refine wpAny_ready (rs := [15]) (by kernel_rfl) (by simp) (AllReady.cons rfl (fun KC hK => ?_) AllReady.nil)
   go_simp
   refine hK _ _ ?_
   clear hK KC
   refine wpAny_done (by kernel_rfl) ?_ _
   go_wp2
   go_ret
   exact ⟨rfl, ⟨_, _, _, _, _, _, hC4.out, hQ4.out⟩, hG4.out⟩
end
end Go.Proofs.YtohokfbohdoijaaGreatDoor

/- What the reader of a unit's text does: multiply in one; what stays where its block alone is written; what a piece is in terms of the text. Conditions: exponents of at most 64. -/
namespace Go.Proofs.YtohokfbohdoijaaGreatDoor
open Go.RowKit Limb
set_option linter.unusedVariables false
theorem uv_list {w : World} {L : List Value} {o : Option Rat} {xs : List Int} (h : UV w L.toArray o xs) : ∃ A n c B m d, L = uL (sg (oTop o)) A n c B m d xs ∧ QT w A n c B m d o ∧ xs.length = 7 := by
 obtain ⟨A, n, c, B, m, d, e, hq, hx⟩ := h
 refine ⟨A, n, c, B, m, d, ?_, hq, hx⟩
 have := congrArg Array.toList e
 simpa [uV] using this
theorem rd_step {w w' : World} {rb mb i : Nat} {s : ByteArray} {L : List Value} {o : Option Rat} {xs : List Int} {M : Tb} (hC : Rd w rb mb s i L) (hV : UV w L.toArray o xs) (hM : MapU w mb M) (hg : w.grownBy w' (some rb)) : UV w' L.toArray o xs ∧ MapU w' mb M := by
 obtain ⟨A, n, c, B, m, d, rfl, _, _⟩ := uv_list hV
 exact ⟨UV.over hC rd_noughts hg hV, MapU.over hC rd_noughts hg hM⟩
theorem UV.step {w w' : World} {rb mb i : Nat} {s : ByteArray} {L : List Value} {o o2 : Option Rat} {xs ys : List Int} {v : Array Value} (hC : Rd w rb mb s i L) (hV : UV w L.toArray o xs) (h : UV w v o2 ys) (hg : w.grownBy w' (some rb)) : UV w' v o2 ys := by
 obtain ⟨A, n, c, B, m, d, rfl, _, _⟩ := uv_list hV
 exact UV.over hC rd_noughts hg h
theorem mulU_cases (p u : UQ) (k : Int) : mulU p u k = (if fitsQ (u.1 ^ k) = true ∧ fitsQ (p.1 * u.1 ^ k) = true ∧ goodD (u.2.map (· * k)) = true ∧ goodD (addD p.2 (u.2.map (· * k))) = true then some (p.1 * u.1 ^ k, addD p.2 (u.2.map (· * k))) else none) := rfl
theorem tMultiply_c {w : World} {rb mb i : Nat} {s : ByteArray} {L : List Value} {v : Array Value} {p u : UQ} (h : Rd w rb mb s i L) (hp : UV w L.toArray (some p.1) p.2) (okp : okU p) (hu : UV w v (some u.1) u.2) (oku : okU u) (k : Int) (hk : -64 ≤ k ∧ k ≤ 64) :
 Calls Tryz.prog 116 #[.pointer (some ⟨rb, 0, none⟩), .agg v, .int .i64 k] w fun e w' => e = .returned (.bool (mulU p u k).isSome) ∧ w.grownBy w' (some rb) ∧ ∀ q, mulU p u k = some q → ∃ L', Rd w' rb mb s i L' ∧ UV w' L'.toArray (some q.1) q.2 := by
 obtain ⟨p1, xs⟩ := p
 obtain ⟨u1, us⟩ := u
 obtain ⟨Au, nu, cu, Bu, mu, du, rfl, hqu, hlu⟩ := hu
 obtain ⟨A, n, c, B, m, d, rfl, hqp, hlx⟩ := uv_list hp
 obtain ⟨a1, a2, a3, a4⟩ := okp
 obtain ⟨b1, b2, b3, b4⟩ := oku
 have hu0 : u1.num ≠ 0 := num_of_ne (fun e => by have b1' : (0 : Rat) < u1 := b1; rw [e] at b1'; exact absurd b1' (by decide))
 have hpw : powR (some u1) k = limR (u1 ^ k) := powR_in (by omega) (by omega) (.inl hu0)
 have hm0 := mulU_cases (p1, xs) (u1, us) k
 dsimp only at hm0 a1 a2 a3 a4 b1 b2 b3 b4
 have no : mulU (p1, xs) (u1, us) k = none → ∀ {e : Ending} {w' : World}, (e = .returned (.bool false) ∧ w.grownBy w' (some rb)) → (e = .returned (.bool (mulU (p1, xs) (u1, us) k).isSome) ∧ w.grownBy w' (some rb) ∧ ∀ q, mulU (p1, xs) (u1, us) k = some q → ∃ L', Rd w' rb mb s i L' ∧ UV w' L'.toArray (some q.1) q.2) := by
  intro h0 e w' ⟨e1, e2⟩
  rw [h0]
  exact ⟨e1, e2, fun q hq => by cases hq⟩
 cases f1 : fitsQ (u1 ^ k) with
 | false =>
  have h0 : mulU (p1, xs) (u1, us) k = none := by rw [hm0, if_neg (by rw [f1]; rintro ⟨h, _⟩; cases h)]
  exact (tMul_A h hqp hqu hlx hlu k (hpw.trans (limR_no f1))).mono fun e w' hh => no h0 hh
 | true =>
  have hpw1 : powR (some u1) k = (some (u1 ^ k), 0) := hpw.trans (limR_yes f1)
  cases f2 : fitsQ (p1 * u1 ^ k) with
  | false =>
   have h0 : mulU (p1, xs) (u1, us) k = none := by rw [hm0, if_neg (by rw [f2]; rintro ⟨_, h, _⟩; cases h)]
   exact (tMul_B h hqp hqu hlx hlu k hpw1 (limR_no f2)).mono fun e w' hh => no h0 hh
  | true =>
   have hmr : mulR (some p1) (some (u1 ^ k)) = (some (p1 * u1 ^ k), 0) := limR_yes f2
   have k0 : -9223372036854775808 ≤ k := by omega
   have k1 : k ≤ 9223372036854775807 := by omega
   have hl7 : (us.map (· * k)).length = 7 := by rw [List.length_map, hlu]
   have hpd : powD us k = mayD (us.map (· * k)) := if_pos b4
   cases f3 : goodD (us.map (· * k)) with
   | false =>
    have h0 : mulU (p1, xs) (u1, us) k = none := by rw [hm0, if_neg (by rw [f3]; rintro ⟨_, _, h, _⟩; cases h)]
    have hpd2 : powD us k = (dim0, 2) := hpd.trans (if_neg (by rw [f3]; decide))
    exact (tMul_C h hqp hqu hlx hlu k hpw1 hmr (i64_good b4) k0 k1 dim0 rfl hpd2).mono fun e w' hh => no h0 hh
   | true =>
    have hpd2 : powD us k = (us.map (· * k), 0) := hpd.trans (if_pos f3)
    have hmd : mulD xs (us.map (· * k)) = mayD (addD xs (us.map (· * k))) := if_pos ⟨a4, f3⟩
    cases f4 : goodD (addD xs (us.map (· * k))) with
    | false =>
     have h0 : mulU (p1, xs) (u1, us) k = none := by rw [hm0, if_neg (by rw [f4]; rintro ⟨_, _, _, h⟩; cases h)]
     exact (tMul_D h hqp hqu hlx hlu k hpw1 hmr (i64_good b4) k0 k1 _ hl7 hpd2 (i64_good a4) (i64_good f3) rfl (hmd.trans (if_neg (by rw [f4]; decide)))).mono fun e w' hh => no h0 hh
    | true =>
     have h0 : mulU (p1, xs) (u1, us) k = some (p1 * u1 ^ k, addD xs (us.map (· * k))) := by rw [hm0, if_pos ⟨f1, f2, f3, f4⟩]
     have hl8 : (addD xs (us.map (· * k))).length = 7 := by rw [List.length_zipWith, hlx, hl7]; rfl
     refine (tMul_E h hqp hqu hlx hlu k hpw1 hmr (i64_good b4) k0 k1 _ hl7 hpd2 (i64_good a4) (i64_good f3) hl8 (hmd.trans (if_pos f4))).mono fun e w' hh => ?_
     obtain ⟨e1, ⟨A', n', c', B', m', d', hr, hq⟩, e2⟩ := hh
     rw [h0]
     refine ⟨e1, e2, fun q hq2 => ?_⟩
     cases hq2
     exact ⟨_, hr, A', n', c', B', m', d', rfl, hq, hl8⟩
/-! ### pieces -/
theorem expT_cons (c : Nat) (l : List Nat) : expT (c :: l) = if c = 94 then expS (skipR l) else .ok (1, c :: l) := rfl
theorem expS_cons (c : Nat) (l : List Nat) : expS (c :: l) = if c = 45 then negR (digR (skipR l)) else digR (c :: l) := rfl
theorem pieceT_cons (M : Tb) (dir : Int) (p : UQ) (c : Nat) (l : List Nat) : pieceT M dir p (c :: l) = if c = 49 then .ok (p, skipR l)
 else if isLet c = true then
  if 16 < nameN (c :: l) then .bad 12 (l.length + 1 - 16)
  else match M.lookup ((c :: l).take (nameN (c :: l))) with
   | none => .bad 15 (l.length + 1)
   | some u => powT p u dir (l.length + 1) (expR ((c :: l).drop (nameN (c :: l))))
 else .bad 12 (l.length + 1) := rfl
theorem expR_bound {l l2 : List Nat} {n : Int} (h : expR l = .ok (n, l2)) : -1000 < n ∧ n < 1000 := by
 have dig : ∀ (t t2 : List Nat) (m : Int), digR t = .ok (m, t2) → -1000 < m ∧ m < 1000 := by
  intro t t2 m h
  unfold digR at h
  split at h
  · cases h
  · split at h
    · cases h
    · cases h
      rename_i h0 h3
      have hb : decV (t.take (litRun t)) < 10 ^ (litRun t) := by
       have hd : allDig (t.take (litRun t)) = true := by unfold litRun; rw [take_while]; exact List.all_takeWhile
       have := decV_lt hd
       have hle : litRun t ≤ t.length := (List.takeWhile_prefix isDig).length_le
       rwa [List.length_take, Nat.min_eq_left hle] at this
      have hb2 : 10 ^ (litRun t) ≤ 1000 := Nat.le_trans (Nat.pow_le_pow_right (by decide) (show litRun t ≤ 3 by omega)) (by decide)
      omega
 unfold expR at h
 cases e : skipR l with
 | nil => rw [e] at h; cases h; omega
 | cons c t =>
  rw [e] at h
  rw [expT_cons] at h
  split at h
  · cases e2 : skipR t with
    | nil => rw [e2] at h; cases h
    | cons c2 t2 =>
     rw [e2] at h
     rw [expS_cons] at h
     split at h
     · cases e3 : digR (skipR t2) with
       | bad x q => rw [e3] at h; cases h
       | ok y =>
        obtain ⟨m, t3⟩ := y
        rw [e3] at h
        cases h
        have := dig _ _ _ e3
        omega
     · exact dig _ _ _ h
  · cases h; omega
section
variable {M : Tb} {dir : Int} {p : UQ} {l : List Nat} {i j n : Nat}
theorem uPiece_one (h : l.drop j = skipR (l.drop i)) (hj : j < l.length) (hc : lim l j = 49) : pieceR M dir p (l.drop i) = .ok (p, skipR (l.drop (j + 1))) := by
 unfold pieceR
 rw [← h, drop_at hj, hc]
 rfl
theorem uPiece_bad (h : l.drop j = skipR (l.drop i)) (hj : j ≤ l.length) (hc : j < l.length → lim l j ≠ 49) (hn : nameN (l.drop j) = n) (hb : n = 0 ∨ 16 < n) : pieceR M dir p (l.drop i) = .bad 12 (l.length - j - min n 16) := by
 unfold pieceR
 rw [← h]
 by_cases hlt : j < l.length
 · have hd := drop_at hlt
   rw [hd] at hn ⊢
   rw [pieceT_cons, if_neg (hc hlt)]
   by_cases hl : isLet (lim l j) = true
   · rw [if_pos hl, hn]
     have h16 : 16 < n := by
      rcases hb with rfl | hb
      · rw [nameN_cons, if_pos hl] at hn; omega
      · exact hb
     rw [if_pos h16]
     congr 1
     rw [List.length_drop]; omega
   · rw [if_neg hl]
     rw [nameN_cons, if_neg hl] at hn
     subst hn
     congr 1
     rw [List.length_drop]; simp; omega
 · have e : l.drop j = [] := List.drop_eq_nil_of_le (by omega)
   rw [e] at hn ⊢
   have : n = 0 := by rw [← hn]; rfl
   subst this
   show PR.bad 12 0 = _
   congr 1
   simp; omega
theorem uPiece_nm (h : l.drop j = skipR (l.drop i)) (hj : j ≤ l.length) (hc : j < l.length → lim l j ≠ 49) (hn : nameN (l.drop j) = n) (hb : 1 ≤ n ∧ n ≤ 16) :
 pieceR M dir p (l.drop i) = match M.lookup ((l.drop j).take n) with | none => .bad 15 (l.length - j) | some u => powT p u dir (l.length - j) (expR (l.drop (j + n))) := by
 unfold pieceR
 rw [← h]
 have hlt : j < l.length := by
  rcases Nat.lt_or_ge j l.length with h | h
  · exact h
  · rw [List.drop_eq_nil_of_le h] at hn; have : n = 0 := by rw [← hn]; rfl
    omega
 have e2 : l.drop (j + n) = (l.drop j).drop n := by rw [List.drop_drop]
 rw [e2]
 have hd := drop_at hlt
 rw [hd] at hn ⊢
 have hl : isLet (lim l j) = true := by
  rcases Bool.eq_false_or_eq_true (isLet (lim l j)) with h | h
  · exact h
  · rw [nameN_cons, if_neg (by rw [h]; decide)] at hn; omega
 rw [pieceT_cons, if_neg (hc hlt), if_pos hl, hn, if_neg (by omega)]
 have e3 : (l.drop (j + 1)).length + 1 = l.length - j := by rw [List.length_drop]; omega
 rw [e3]
end
end Go.Proofs.YtohokfbohdoijaaGreatDoor

/- What the reader of a unit's text does: a piece, as a contract over memory. Condition: a text of at most 200 bytes. -/
namespace Go.Proofs.YtohokfbohdoijaaGreatDoor
open Go.RowKit Limb
set_option linter.unusedVariables false
theorem wpList_storeNewAt {P : Program} {ops : Array Oper} {rest : List Oper} {o : Oper} {a : Act} {w : World} {Q : Exit → Act → World → Prop} (hg : Region.wanted o (yielded ops a.tmps) = true) (ty : TypeId) (x y : Operand) (ho : o.op = .store ty x y) (V V0 : Array Value) (T : TypeId) (g : Nat) (hx : a.eval x = .pointer (some ⟨g, 0, none⟩)) (hy : a.eval y = .agg V) (he : g = w.heap.size) (hT : Hid (Many P ty V.size ∧ V0.size = V.size ∧ ∀ v ∈ V, v.oneCell' = true))
 (h : wpList P ops Q rest (a.put o.dst undef) (w.alloc (.cells V T))) : wpList P ops Q (o :: rest) a (w.alloc (.cells V0 T)) := by
 subst he; exact wpList_storeNew hg ty x y ho V V0 T hx hy hT h
theorem flt_limb {e a : Int} : ∀ v ∈ fltC e a, ∀ x, v ≠ .int .u32 x := by intro v hv x h; subst h; simp at hv
def PieceP (w' : World) (rb mb : Nat) (s : ByteArray) (E A : Int) : PR (UQ × List Nat) → Prop
 | .ok (q, l) => E = 0 ∧ A = 0 ∧ ∃ j L', j ≤ s.size ∧ skipR ((bytesOf s).drop j) = l ∧ Rd w' rb mb s j L' ∧ UV w' L'.toArray (some q.1) q.2
 | .bad x r => E = x ∧ A = (s.size : Int) - (r : Int) ∧ x ≠ 0
section
variable {w : World} {rb mb i : Nat} {s : ByteArray} {L : List Value} {p : UQ} {M : Tb} {dir : Int}
set_option maxHeartbeats 4000000 in
set_option maxRecDepth 100000 in
theorem tPiece_c (h : Rd w rb mb s i L) (hV : UV w L.toArray (some p.1) p.2) (okp : okU p) (hM : MapU w mb M) (hz : s.size ≤ 200) (hi : i ≤ s.size) (hdir : Hid (dir = 1 ∨ dir = -1)) :
 Calls Tryz.prog 77 #[.pointer (some ⟨rb, 0, none⟩), .int .i64 dir] w fun e w' => ∃ E A : Int, e = .returned (fltV E A) ∧ w.grownBy w' (some rb) ∧ PieceP w' rb mb s E A (pieceR M dir p ((bytesOf s).drop i)) := by
 have hn0 : rb ≠ w.heap.size := by have := h.lt; omega
 have bn := below_new w (.cells (fltC 0 0) 56)
 have h_rz := rowA_new w 56 (fltC 0 0)
 have HC := Lib.hid (h.below bn)
 have HV := Lib.hid (UV.below hV bn)
 have HM := Lib.hid (hM.below bn)
 have HG := Lib.hid (grown_of bn (some rb))
 have HL := Lib.hid (length_bytesOf s)
 have HI := Lib.hid hi
 have HP := Lib.hid okp
 have HMK := Lib.hid hM.ok
 clear h bn hi hV hM okp
 go_enter Tryz.func77, Tryz.ntmps77
 go_wp2_with fail
 generalize w.alloc (.cells (fltC 0 0) 56) = w1 at *
 obtain ⟨qz, eq⟩ : ∃ g, g = w.heap.size := ⟨_, rfl⟩
 rw [← eq] at h_rz hn0 ⊢
 have hqz : Hid (w.heap.size ≤ qz) := by show _ ≤ _; omega
 have hnHZ := Lib.hid hn0
 have HZ := Lib.hid h_rz
 clear eq hn0 h_rz
 refine (tSkip_c HC.out hz HI.out).mono ?_
 rintro e w2 ⟨rfl, j0, hlj, hhj, hdj, hr, hg⟩
 have st := rd_step HC.out HV.out HM.out hg
 have nV := st.1
 have nM := st.2
 clear st
 have nHZ := RowA.onward (rb := rb) HZ.out hg hnHZ.out
 have nG := grown_trans HG.out hg
 clear HC HV HM HG HZ
 have HC := Lib.hid hr
 have HV := Lib.hid nV
 have HM := Lib.hid nM
 have HG := Lib.hid nG
 have HZ := Lib.hid nHZ
 clear nV nM nG nHZ
 clear hr hg
 have HD := Lib.hid hdj
 have HH := Lib.hid hhj
 clear hdj hhj hlj
 go_wp2_with fail
 by_cases hc : j0 < s.size ∧ lim (bytesOf s) j0 = 49
 · have hc1 := Lib.hid hc
   clear hc
   have HX : Hid (pieceR M dir p ((bytesOf s).drop i) = .ok (p, skipR ((bytesOf s).drop (j0 + 1)))) := uPiece_one HD.out (by rw [HL.out]; exact hc1.out.1) hc1.out.2
   refine (tTake_yes HC.out hz hc1.out.1 49 hc1.out.2).mono ?_
   rintro e w3 ⟨rfl, hr, hg⟩
   have st := rd_step HC.out HV.out HM.out hg
   have nV := st.1
   have nM := st.2
   clear st
   have nHZ := RowA.onward (rb := rb) HZ.out hg hnHZ.out
   have nG := grown_trans HG.out hg
   clear HC HV HM HG HZ
   have HC := Lib.hid hr
   have HV := Lib.hid nV
   have HM := Lib.hid nM
   have HG := Lib.hid nG
   have HZ := Lib.hid nHZ
   clear nV nM nG nHZ
   clear hr hg
   have HR := Lib.hid (RowA.fill HZ.out (V' := fltC 0 0))
   have HE := Lib.hid (grown_fill HG.out hqz.out (fltC 0 0))
   have HF := Lib.hid (Rd.farF HC.out hnHZ.out (V := fltC 0 0))
   have HV2 := Lib.hid (UV.fill (V := fltC 0 0) HV.out HZ.out flt_limb)
   go_wp2_with (refine wpList_storeV (by rfl) _ _ _ (by rfl) _ (by rfl) _ (by rfl) _ _ (by assumption) (Lib.hid (fitsF (0) (0))) ?_)
   refine bodyPost_ret (results_cell_row rfl _ _ _ 56 (fltC 0 0) (0, 0) _ rfl HR.out Tryz.underlying56 rfl sizeF) rfl ?_
   refine ⟨0, 0, rfl, HE.out, ?_⟩
   rw [HX.out]
   exact ⟨rfl, rfl, j0 + 1, L, hc1.out.1, rfl, HF.out, HV2.out⟩
 · have hc1 : Hid (j0 < s.size → lim (bytesOf s) j0 ≠ 49) := fun h1 h2 => hc ⟨h1, h2⟩
   clear hc
   refine (tTake_no HC.out hz HH.out 49 hc1.out).mono ?_
   rintro e w3 ⟨rfl, bn⟩
   have nC := HC.out.below bn
   have nV := UV.below HV.out bn
   have nM := MapU.below HM.out bn
   have nHZ := RowA.below HZ.out bn
   have nG := grown_trans HG.out (grown_of bn (some rb))
   clear HC HV HM HG HZ
   have HC := Lib.hid nC
   have HV := Lib.hid nV
   have HM := Lib.hid nM
   have HG := Lib.hid nG
   have HZ := Lib.hid nHZ
   clear nV nM nG nHZ
   clear nC bn
   have c2 := HC.out.c2
   go_wp2_with fail
   clear c2
   obtain ⟨n, hn⟩ : ∃ n, nameN ((bytesOf s).drop j0) = n := ⟨_, rfl⟩
   have HN := Lib.hid hn
   clear hn
   by_cases hb : n = 0 ∨ 16 < n
   · replace hb := Lib.hid hb
     have HX : Hid (pieceR M dir p ((bytesOf s).drop i) = .bad 12 (s.size - j0 - min n 16)) := by show _ = _; rw [← HL.out]; exact uPiece_bad HD.out (by rw [HL.out]; exact HH.out) (by rw [HL.out]; exact hc1.out) HN.out hb.out
     have hnl : Hid (n ≤ s.size - j0) := by show _ ≤ _; rw [← HN.out, ← HL.out, ← List.length_drop]; exact nameN_le _
     refine (tName_bad HC.out hz HH.out n HN.out hb.out).mono ?_
     rintro e w4 ⟨rfl, hg⟩
     have nG := grown_trans HG.out hg
     have nHZ := RowA.onward (rb := rb) HZ.out hg hnHZ.out
     clear HC HV HM HG HZ hg
     have bn := below_new w4 (.cells (fltC 12 ((j0 + min n 16 : Nat) : Int)) 56)
     have HG := Lib.hid (grown_trans nG (grown_of bn (some rb)))
     have HZ := Lib.hid (RowA.below nHZ bn)
     clear nG nHZ bn
     have HR := Lib.hid (RowA.fill HZ.out (V' := fltC 12 ((j0 + min n 16 : Nat) : Int)))
     have HE := Lib.hid (grown_fill HG.out hqz.out (fltC 12 ((j0 + min n 16 : Nat) : Int)))
     go_wp2_with (first | (refine wpList_storeNew (by rfl) _ _ _ (by rfl) _ _ _ (by rfl) (by rfl) (Lib.hid (fitsF (12) (((j0 + min n 16 : Nat) : Int)))) ?_) | (refine wpList_storeV (by rfl) _ _ _ (by rfl) _ (by rfl) _ (by rfl) _ _ (by assumption) (Lib.hid (fitsF (12) (((j0 + min n 16 : Nat) : Int)))) ?_))
     refine bodyPost_ret (results_cell_row rfl _ _ _ 56 (fltC 12 ((j0 + min n 16 : Nat) : Int)) (0, 0) _ rfl HR.out Tryz.underlying56 rfl sizeF) rfl ?_
     refine ⟨12, _, rfl, HE.out, ?_⟩
     rw [HX.out]
     refine ⟨rfl, ?_, by decide⟩
     have h1 := hnl.out
     have h2 := HH.out
     omega
   · replace hb : Hid (1 ≤ n ∧ n ≤ 16) := by constructor <;> omega
     have HX : Hid (pieceR M dir p ((bytesOf s).drop i) = match M.lookup (((bytesOf s).drop j0).take n) with | none => .bad 15 (s.size - j0) | some u => powT p u dir (s.size - j0) (expR ((bytesOf s).drop (j0 + n)))) := by show _ = _; rw [← HL.out]; exact uPiece_nm HD.out (by rw [HL.out]; exact HH.out) (by rw [HL.out]; exact hc1.out) HN.out hb.out
     have hnl : Hid (j0 + n ≤ s.size) := by show _ ≤ _; have h1 := nameN_le ((bytesOf s).drop j0); rw [HN.out, List.length_drop, HL.out] at h1; have := HH.out; omega
     refine (tName_ok HC.out hz HH.out n HN.out hb.out).mono ?_
     rintro e w4 ⟨t, rfl, htx, hr, hg⟩
     have st := rd_step HC.out HV.out HM.out hg
     have nV := st.1
     have nM := st.2
     clear st
     have nHZ := RowA.onward (rb := rb) HZ.out hg hnHZ.out
     have nG := grown_trans HG.out hg
     clear HC HV HM HG HZ
     have HC := Lib.hid hr
     have HV := Lib.hid nV
     have HM := Lib.hid nM
     have HG := Lib.hid nG
     have HZ := Lib.hid nHZ
     clear nV nM nG nHZ
     clear hr hg
     have hleHF : Hid (w.heap.size ≤ w4.heap.size) := HG.out.size
     have hltHF : Hid (rb ≠ w4.heap.size) := by show _ ≠ _; have := HC.out.lt; omega
     have hqzHF : Hid (w4.heap.size ≠ qz) := by show _ ≠ _; have := RowA.lt HZ.out; omega
     have r0 := rowA_new w4 56 (fltC 0 0)
     have bn := below_new w4 (.cells (fltC 0 0) 56)
     have nC := HC.out.below bn
     have nV := UV.below HV.out bn
     have nM := MapU.below HM.out bn
     have nHZ := RowA.below HZ.out bn
     have nG := grown_trans HG.out (grown_of bn (some rb))
     clear HC HV HM HG HZ
     have HC := Lib.hid nC
     have HV := Lib.hid nV
     have HM := Lib.hid nM
     have HG := Lib.hid nG
     have HZ := Lib.hid nHZ
     clear nV nM nG nHZ
     clear nC bn
     have HF := Lib.hid r0
     clear r0
     have HTX := Lib.hid htx
     have hts : Hid (t.size ≤ 1000000) := by show _ ≤ _; rw [← length_bytesOf, htx, List.length_take]; have := hb.out; omega
     clear htx
     obtain ⟨v, hrun, hv⟩ := HM.out.look (.string t) (bytesOf t) (bytes_bytesOf t) (key_str hts.out)
     rw [HTX.out] at hrun hv
     have c0 := HC.out.c0
     cases hlk : M.lookup (((bytesOf s).drop j0).take n) with
     | none =>
      rw [hlk] at hrun hv
      have HU := Lib.hid (fits10 (UV.size hv).1 (UV.size hv).2)
      have bn := below_new (w4.alloc (.cells (fltC 0 0) 56)) (.cells v 37)
      have nG := grown_trans HG.out (grown_of bn (some rb))
      have nZ := RowA.below HZ.out bn
      clear HC HV HM HG HZ HF bn hv
      have HG := Lib.hid nG
      have HZ := Lib.hid nZ
      clear nG nZ
      have HX2 : Hid (pieceR M dir p ((bytesOf s).drop i) = .bad 15 (s.size - j0)) := by show _ = _; rw [HX.out, hlk]
      clear hlk HX
      have HR := Lib.hid (RowA.fill HZ.out (V' := fltC 15 (j0 : Int)))
      have HE := Lib.hid (grown_fill HG.out hqz.out (fltC 15 (j0 : Int)))
      go_wp2_with (first | (refine wpList_storeNew (by rfl) _ _ _ (by rfl) _ _ _ (by rfl) (by rfl) (Lib.hid (fitsF (0) (0))) ?_) | (refine wpList_storeNewAt (by rfl) _ _ _ (by rfl) _ _ _ _ (by rfl) (by rfl) (by simp) (by assumption) ?_) | (refine wpList_storeV (by rfl) _ _ _ (by rfl) _ (by rfl) _ (by rfl) _ _ (by assumption) (Lib.hid (fitsF (15) ((j0 : Int)))) ?_))
      refine bodyPost_ret (results_cell_row rfl _ _ _ 56 (fltC 15 (j0 : Int)) (0, 0) _ rfl HR.out Tryz.underlying56 rfl sizeF) rfl ?_
      refine ⟨15, _, rfl, HE.out, ?_⟩
      rw [HX2.out]
      refine ⟨rfl, ?_, by decide⟩
      have h2 := HH.out
      omega
     | some u =>
      rw [hlk] at hrun hv
      have hou : Hid (okU u) := HMK.out.ok hlk
      have HX2 : Hid (pieceR M dir p ((bytesOf s).drop i) = powT p u dir (s.size - j0) (expR ((bytesOf s).drop (j0 + n)))) := by show _ = _; rw [HX.out, hlk]
      clear hlk HX
      have HU := Lib.hid (fits10 (UV.size hv).1 (UV.size hv).2)
      have hv : UV _ v (some u.1) u.2 := hv
      have HW := Lib.hid hv
      clear hv
      have hleHB : Hid (w.heap.size ≤ (w4.alloc (.cells (fltC 0 0) 56)).heap.size) := HG.out.size
      have hltHB : Hid (rb ≠ (w4.alloc (.cells (fltC 0 0) 56)).heap.size) := by show _ ≠ _; have := HC.out.lt; omega
      have hqzHB : Hid ((w4.alloc (.cells (fltC 0 0) 56)).heap.size ≠ qz) := by show _ ≠ _; have := RowA.lt HZ.out; omega
      have r0 := rowA_new (w4.alloc (.cells (fltC 0 0) 56)) 37 v
      have bn := below_new (w4.alloc (.cells (fltC 0 0) 56)) (.cells v 37)
      have nC := HC.out.below bn
      have nV := UV.below HV.out bn
      have nM := MapU.below HM.out bn
      have nHW := UV.below HW.out bn
      have nHZ := RowA.below HZ.out bn
      have nHF := RowA.below HF.out bn
      have nG := grown_trans HG.out (grown_of bn (some rb))
      clear HC HV HM HG HZ HF HW
      have HC := Lib.hid nC
      have HV := Lib.hid nV
      have HM := Lib.hid nM
      have HG := Lib.hid nG
      have HZ := Lib.hid nHZ
      have HF := Lib.hid nHF
      have HW := Lib.hid nHW
      clear nV nM nG nHZ nHF nHW
      clear nC bn
      have HB := Lib.hid r0
      clear r0
      go_wp2_with (first | (refine wpList_storeNew (by rfl) _ _ _ (by rfl) _ _ _ (by rfl) (by rfl) (Lib.hid (fitsF (0) (0))) ?_) | (refine wpList_storeNewAt (by rfl) _ _ _ (by rfl) _ _ _ _ (by rfl) (by rfl) (by simp) (by assumption) ?_))
      clear c0 hrun HU
      simp only [World.size_alloc] at HB hltHB hqzHB
      generalize (w4.alloc (.cells (fltC 0 0) 56)).alloc (.cells v 37) = w6 at *
      obtain ⟨qu, eu⟩ : ∃ g, g = w4.heap.size + 1 := ⟨_, rfl⟩
      obtain ⟨qf, ef⟩ : ∃ g, g = w4.heap.size := ⟨_, rfl⟩
      rw [← eu] at HB hltHB hqzHB ⊢
      rw [← ef] at HF hltHF hqzHF hleHF ⊢
      have hwHF := hqzHF
      have hfu : Hid (qf ≠ qu) := by show _ ≠ _; omega
      clear eu ef
      have hnHF := hltHF
      have hnHB := hltHB
      clear hltHF hltHB
      refine (tExp_c HC.out hz hnl.out).mono ?_
      rintro e w7 ⟨v1, E, A, rfl, hg, hx⟩
      cases hex : expR ((bytesOf s).drop (j0 + n)) with
      | bad x r =>
       rw [hex] at hx
       obtain ⟨rfl, rfl, hx0⟩ := hx
       have HX3 : Hid (pieceR M dir p ((bytesOf s).drop i) = .bad E r) := by show _ = _; rw [HX2.out, hex]; rfl
       have hE : (E != 0) = true := by simpa using hx0
       have HE0 := Lib.hid hx0
       clear hex HX2 hx0
       have nG := grown_trans HG.out hg
       have nZ := RowA.onward (rb := rb) HZ.out hg hnHZ.out
       have nF := RowA.onward (rb := rb) HF.out hg hnHF.out
       have nB := RowA.onward (rb := rb) HB.out hg hnHB.out
       have nW := UV.step HC.out HV.out HW.out hg
       have nV := UV.step HC.out HV.out HV.out hg
       have nF2 := Lib.hid (nF.fill (V' := (fltC E ((s.size : Int) - (r : Int)))))
       have nZ2 := Lib.hid (RowA.farRow (V' := (fltC E ((s.size : Int) - (r : Int)))) nZ hwHF.out)
       have nG2 := Lib.hid (grown_fill nG hleHF.out (fltC E ((s.size : Int) - (r : Int))))
       have HF7 := Lib.hid nF
       clear HC HV HM HG HZ HF HB HW hg nG nZ nF nB nW nV
       have cE := nF2.out.cell (k := 0) (v := .int .i64 E) rfl
       have HIf := Lib.hid nF2.out.inV
       have HMf := Lib.hid (manyF E ((s.size : Int) - (r : Int)))
       have HR := Lib.hid (RowA.fill nZ2.out (V' := (fltC E ((s.size : Int) - (r : Int)))))
       have HE := Lib.hid (grown_fill nG2.out hqz.out (fltC E ((s.size : Int) - (r : Int))))
       go_wp2_with (first | (refine wpList_loadV (by rfl) _ _ (by rfl) _ _ (by rfl) _ (by assumption) (by assumption) ?_) | (refine wpList_storeV (by rfl) _ _ _ (by rfl) _ (by rfl) _ (by rfl) _ _ (by assumption) (Lib.hid (fitsF (E) ((s.size : Int) - (r : Int)))) ?_))
       refine bodyPost_ret (results_cell_row rfl _ _ _ 56 (fltC E ((s.size : Int) - (r : Int))) (0, 0) _ rfl HR.out Tryz.underlying56 rfl sizeF) rfl ?_
       refine ⟨E, _, rfl, HE.out, ?_⟩
       rw [HX3.out]
       exact ⟨rfl, rfl, HE0.out⟩
      | ok y =>
       obtain ⟨n1, l2⟩ := y
       rw [hex] at hx
       obtain ⟨rfl, rfl, rfl, j2, hj2, hd2, hr⟩ := hx
       have hbd := expR_bound hex
       replace hex := Lib.hid hex
       replace hj2 := Lib.hid hj2
       replace hd2 := Lib.hid hd2
       have nG := grown_trans HG.out hg
       have nZ := RowA.onward (rb := rb) HZ.out hg hnHZ.out
       have nF := RowA.onward (rb := rb) HF.out hg hnHF.out
       have nB := RowA.onward (rb := rb) HB.out hg hnHB.out
       have nW := UV.step HC.out HV.out HW.out hg
       have nV := UV.step HC.out HV.out HV.out hg
       have nF2 := Lib.hid (nF.fill (V' := (fltC 0 0)))
       have nZ2 := Lib.hid (RowA.farRow (V' := (fltC 0 0)) nZ hwHF.out)
       have nG2 := Lib.hid (grown_fill nG hleHF.out (fltC 0 0))
       have HF7 := Lib.hid nF
       have nB2 := Lib.hid (RowA.farRow (V' := (fltC 0 0)) nB hfu.out)
       have nW2 := Lib.hid (UV.fill (V := (fltC 0 0)) nW nF flt_limb)
       have nV2 := Lib.hid (UV.fill (V := (fltC 0 0)) nV nF flt_limb)
       have nC2 := Lib.hid (Rd.farF hr hnHF.out (V := (fltC 0 0)))
       clear HC HV HM HG HZ HF HB HW hg nG nZ nF nB nW nV hr
       have cE := nF2.out.cell (k := 0) (v := .int .i64 0) rfl
       obtain ⟨hb1, hb2⟩ := hbd
       have hwn : IntKind.i64.wrap (-v1) = -v1 := by rw [IntKind.wrap_i64]; omega
       have HZ := nZ2
       have HG := nG2
       have HC := nC2
       have HV := nV2
       have HW := nW2
       have HB := nB2
       have hst : ∀ W, RowA w7 qf 56 (fltC 0 0) → W = w7.setRow qf (fltC 0 0) → True := fun _ _ _ => trivial
       clear hst
       by_cases h00 : 0 ≤ v1
       · have h0 : -v1 ≤ v1 := by omega
         have hmm : max v1 (-v1) = v1 := by omega
         by_cases h64 : 64 < v1
         · have HX3 : Hid (pieceR M dir p ((bytesOf s).drop i) = .bad 2 (s.size - j0)) := by show _ = _; rw [HX2.out, hex.out]; exact if_pos (by omega)
           have HR := Lib.hid (RowA.fill HZ.out (V' := fltC 2 (j0 : Int)))
           have HE := Lib.hid (grown_fill HG.out hqz.out (fltC 2 (j0 : Int)))
           go_wp2_with (first | (refine wpList_storeV (by rfl) _ _ _ (by rfl) _ (by rfl) _ (by rfl) _ _ (by assumption) (Lib.hid (fitsF (0) (0))) ?_) | (refine wpList_storeV (by rfl) _ _ _ (by rfl) _ (by rfl) _ (by rfl) _ _ (by assumption) (Lib.hid (fitsF (2) ((j0 : Int)))) ?_))
           refine bodyPost_ret (results_cell_row rfl _ _ _ 56 (fltC 2 (j0 : Int)) (0, 0) _ rfl HR.out Tryz.underlying56 rfl sizeF) rfl ?_
           refine ⟨2, _, rfl, HE.out, ?_⟩
           rw [HX3.out]
           refine ⟨rfl, ?_, by decide⟩
           have h2 := HH.out
           omega
         · replace h64 : v1 ≤ 64 := by omega
           have hd64 : decide (64 < v1) = false := by rw [decide_eq_false_iff_not]; omega
           have hk : Hid (-64 ≤ dir * v1 ∧ dir * v1 ≤ 64) := by show _ ∧ _; rcases hdir.out with h | h <;> rw [h] <;> omega
           have hwd : IntKind.i64.wrap (dir * v1) = dir * v1 := by have := hk.out; rw [IntKind.wrap_i64]; omega
           have HIb := Lib.hid HB.out.inV
           have HMb := Lib.hid (many10 (UV.size HW.out).1)
           have HX3 : Hid (pieceR M dir p ((bytesOf s).drop i) = match mulU p u (dir * v1) with | none => .bad 2 (s.size - j0) | some q => .ok (q, skipR l2)) := by show _ = _; rw [HX2.out, hex.out]; exact if_neg (by omega)
           go_wp2_with (first | (refine wpList_loadV (by rfl) _ _ (by rfl) _ _ (by rfl) _ (by assumption) (by assumption) ?_) | (refine wpList_storeV (by rfl) _ _ _ (by rfl) _ (by rfl) _ (by rfl) _ _ (by assumption) (Lib.hid (fitsF (0) (0))) ?_))
           refine (tMultiply_c HC.out HV.out HP.out HW.out hou.out (dir * v1) hk.out).mono ?_
           rintro e w9 ⟨rfl, hg, hy⟩
           have nG := grown_trans HG.out hg
           have nZ := RowA.onward (rb := rb) HZ.out hg hnHZ.out
           clear HC HV HW HB HG HZ hg HIb HMb
           have HZ := Lib.hid nZ
           have HG := Lib.hid nG
           clear nZ nG
           cases hmu : mulU p u (dir * v1) with
           | none =>
            have HX4 : Hid (pieceR M dir p ((bytesOf s).drop i) = .bad 2 (s.size - j0)) := by show _ = _; rw [HX3.out, hmu]
            clear hy hmu
            have HR := Lib.hid (RowA.fill HZ.out (V' := fltC 2 (j0 : Int)))
            have HE := Lib.hid (grown_fill HG.out hqz.out (fltC 2 (j0 : Int)))
            go_wp2_with (refine wpList_storeV (by rfl) _ _ _ (by rfl) _ (by rfl) _ (by rfl) _ _ (by assumption) (Lib.hid (fitsF (2) ((j0 : Int)))) ?_)
            refine bodyPost_ret (results_cell_row rfl _ _ _ 56 (fltC 2 (j0 : Int)) (0, 0) _ rfl HR.out Tryz.underlying56 rfl sizeF) rfl ?_
            refine ⟨2, _, rfl, HE.out, ?_⟩
            rw [HX4.out]
            refine ⟨rfl, ?_, by decide⟩
            have h2 := HH.out
            omega
           | some q =>
            have HX4 : Hid (pieceR M dir p ((bytesOf s).drop i) = .ok (q, skipR l2)) := by show _ = _; rw [HX3.out, hmu]
            obtain ⟨L2, hr2, hu2⟩ := hy q hmu
            replace hr2 := Lib.hid hr2
            replace hu2 := Lib.hid hu2
            clear hy hmu
            have HR := Lib.hid (RowA.fill HZ.out (V' := fltC 0 0))
            have HE := Lib.hid (grown_fill HG.out hqz.out (fltC 0 0))
            have HF2 := Lib.hid (Rd.farF hr2.out hnHZ.out (V := fltC 0 0))
            have HV2 := Lib.hid (UV.fill (V := fltC 0 0) hu2.out HZ.out flt_limb)
            go_wp2_with (refine wpList_storeV (by rfl) _ _ _ (by rfl) _ (by rfl) _ (by rfl) _ _ (by assumption) (Lib.hid (fitsF (0) (0))) ?_)
            refine bodyPost_ret (results_cell_row rfl _ _ _ 56 (fltC 0 0) (0, 0) _ rfl HR.out Tryz.underlying56 rfl sizeF) rfl ?_
            refine ⟨0, 0, rfl, HE.out, ?_⟩
            rw [HX4.out]
            exact ⟨rfl, rfl, j2, L2, hj2.out, by rw [hd2.out], HF2.out, HV2.out⟩
       · have h0 : v1 < -v1 := by omega
         have hmm : max v1 (-v1) = -v1 := by omega
         by_cases h64 : 64 < -v1
         · have HX3 : Hid (pieceR M dir p ((bytesOf s).drop i) = .bad 2 (s.size - j0)) := by show _ = _; rw [HX2.out, hex.out]; exact if_pos (by omega)
           have HR := Lib.hid (RowA.fill HZ.out (V' := fltC 2 (j0 : Int)))
           have HE := Lib.hid (grown_fill HG.out hqz.out (fltC 2 (j0 : Int)))
           go_wp2_with (first | (refine wpList_storeV (by rfl) _ _ _ (by rfl) _ (by rfl) _ (by rfl) _ _ (by assumption) (Lib.hid (fitsF (0) (0))) ?_) | (refine wpList_storeV (by rfl) _ _ _ (by rfl) _ (by rfl) _ (by rfl) _ _ (by assumption) (Lib.hid (fitsF (2) ((j0 : Int)))) ?_))
           refine bodyPost_ret (results_cell_row rfl _ _ _ 56 (fltC 2 (j0 : Int)) (0, 0) _ rfl HR.out Tryz.underlying56 rfl sizeF) rfl ?_
           refine ⟨2, _, rfl, HE.out, ?_⟩
           rw [HX3.out]
           refine ⟨rfl, ?_, by decide⟩
           have h2 := HH.out
           omega
         · replace h64 : -v1 ≤ 64 := by omega
           have hd64 : decide (64 < -v1) = false := by rw [decide_eq_false_iff_not]; omega
           have hk : Hid (-64 ≤ dir * v1 ∧ dir * v1 ≤ 64) := by show _ ∧ _; rcases hdir.out with h | h <;> rw [h] <;> omega
           have hwd : IntKind.i64.wrap (dir * v1) = dir * v1 := by have := hk.out; rw [IntKind.wrap_i64]; omega
           have HIb := Lib.hid HB.out.inV
           have HMb := Lib.hid (many10 (UV.size HW.out).1)
           have HX3 : Hid (pieceR M dir p ((bytesOf s).drop i) = match mulU p u (dir * v1) with | none => .bad 2 (s.size - j0) | some q => .ok (q, skipR l2)) := by show _ = _; rw [HX2.out, hex.out]; exact if_neg (by omega)
           go_wp2_with (first | (refine wpList_loadV (by rfl) _ _ (by rfl) _ _ (by rfl) _ (by assumption) (by assumption) ?_) | (refine wpList_storeV (by rfl) _ _ _ (by rfl) _ (by rfl) _ (by rfl) _ _ (by assumption) (Lib.hid (fitsF (0) (0))) ?_))
           refine (tMultiply_c HC.out HV.out HP.out HW.out hou.out (dir * v1) hk.out).mono ?_
           rintro e w9 ⟨rfl, hg, hy⟩
           have nG := grown_trans HG.out hg
           have nZ := RowA.onward (rb := rb) HZ.out hg hnHZ.out
           clear HC HV HW HB HG HZ hg HIb HMb
           have HZ := Lib.hid nZ
           have HG := Lib.hid nG
           clear nZ nG
           cases hmu : mulU p u (dir * v1) with
           | none =>
            have HX4 : Hid (pieceR M dir p ((bytesOf s).drop i) = .bad 2 (s.size - j0)) := by show _ = _; rw [HX3.out, hmu]
            clear hy hmu
            have HR := Lib.hid (RowA.fill HZ.out (V' := fltC 2 (j0 : Int)))
            have HE := Lib.hid (grown_fill HG.out hqz.out (fltC 2 (j0 : Int)))
            go_wp2_with (refine wpList_storeV (by rfl) _ _ _ (by rfl) _ (by rfl) _ (by rfl) _ _ (by assumption) (Lib.hid (fitsF (2) ((j0 : Int)))) ?_)
            refine bodyPost_ret (results_cell_row rfl _ _ _ 56 (fltC 2 (j0 : Int)) (0, 0) _ rfl HR.out Tryz.underlying56 rfl sizeF) rfl ?_
            refine ⟨2, _, rfl, HE.out, ?_⟩
            rw [HX4.out]
            refine ⟨rfl, ?_, by decide⟩
            have h2 := HH.out
            omega
           | some q =>
            have HX4 : Hid (pieceR M dir p ((bytesOf s).drop i) = .ok (q, skipR l2)) := by show _ = _; rw [HX3.out, hmu]
            obtain ⟨L2, hr2, hu2⟩ := hy q hmu
            replace hr2 := Lib.hid hr2
            replace hu2 := Lib.hid hu2
            clear hy hmu
            have HR := Lib.hid (RowA.fill HZ.out (V' := fltC 0 0))
            have HE := Lib.hid (grown_fill HG.out hqz.out (fltC 0 0))
            have HF2 := Lib.hid (Rd.farF hr2.out hnHZ.out (V := fltC 0 0))
            have HV2 := Lib.hid (UV.fill (V := fltC 0 0) hu2.out HZ.out flt_limb)
            go_wp2_with (refine wpList_storeV (by rfl) _ _ _ (by rfl) _ (by rfl) _ (by rfl) _ _ (by assumption) (Lib.hid (fitsF (0) (0))) ?_)
            refine bodyPost_ret (results_cell_row rfl _ _ _ 56 (fltC 0 0) (0, 0) _ rfl HR.out Tryz.underlying56 rfl sizeF) rfl ?_
            refine ⟨0, 0, rfl, HE.out, ?_⟩
            rw [HX4.out]
            exact ⟨rfl, rfl, j2, L2, hj2.out, by rw [hd2.out], HF2.out, HV2.out⟩
end
end Go.Proofs.YtohokfbohdoijaaGreatDoor

/- Mathematics of pieces of a unit's text: what is told may be; a piece leaves less; a step of reading. No condition. -/
namespace Go.Proofs.YtohokfbohdoijaaGreatDoor
open Go.RowKit Limb
set_option linter.unusedVariables false
theorem rat_mul_pos {a b : Rat} (ha : 0 < a) (hb : 0 < b) : 0 < a * b := by
 have := Rat.mul_lt_mul_of_pos_left (a := 0) (b := b) (c := a) hb ha
 simpa using this
theorem rat_npow_pos {a : Rat} (ha : 0 < a) : ∀ n : Nat, 0 < a ^ n
 | 0 => by rw [Rat.pow_zero]; decide
 | n + 1 => by rw [Rat.pow_succ]; exact rat_mul_pos (rat_npow_pos ha n) ha
theorem rat_zpow_pos {a : Rat} (ha : 0 < a) (k : Int) : 0 < a ^ k := by
 rcases Int.le_total 0 k with h | h
 · obtain ⟨n, rfl⟩ := Int.eq_ofNat_of_zero_le h
   rw [Rat.zpow_natCast]; exact rat_npow_pos ha n
 · obtain ⟨n, hn⟩ := Int.eq_ofNat_of_zero_le (show 0 ≤ -k by omega)
   have e : k = -(n : Int) := by omega
   rw [e, Rat.zpow_neg, Rat.zpow_natCast]
   exact Rat.inv_pos.2 (rat_npow_pos ha n)
theorem okU_mul {p u q : UQ} {k : Int} (hp : okU p) (hu : okU u) (h : mulU p u k = some q) : okU q := by
 rw [mulU_cases] at h
 split at h
 · rename_i hc
   cases h
   refine ⟨rat_mul_pos hp.1 (rat_zpow_pos hu.1 k), hc.2.1, ?_, hc.2.2.2⟩
   show (List.zipWith _ _ _).length = 7
   rw [List.length_zipWith, List.length_map, hp.2.2.1, hu.2.2.1]; rfl
 · cases h
theorem oneU_ok : okU oneU := by decide +kernel
theorem skipR_le (l : List Nat) : (skipR l).length ≤ l.length := (List.dropWhile_suffix _).length_le
theorem digR_le {l l2 : List Nat} {n : Int} (h : digR l = .ok (n, l2)) : l2.length ≤ l.length := by
 unfold digR at h
 split at h
 · cases h
 · split at h
   · cases h
   · cases h; rw [List.length_drop]; omega
theorem expR_le {l l2 : List Nat} {n : Int} (h : expR l = .ok (n, l2)) : l2.length ≤ l.length := by
 have h0 := skipR_le l
 unfold expR at h
 cases e : skipR l with
 | nil => rw [e] at h; cases h; simp
 | cons c t =>
  rw [e] at h h0
  rw [expT_cons] at h
  simp only [List.length_cons] at h0
  split at h
  · have h1 := skipR_le t
    cases e2 : skipR t with
    | nil => rw [e2] at h; cases h
    | cons c2 t2 =>
     rw [e2] at h h1
     simp only [List.length_cons] at h1
     rw [expS_cons] at h
     split at h
     · cases e3 : digR (skipR t2) with
       | bad x q => rw [e3] at h; cases h
       | ok y =>
        obtain ⟨m, t3⟩ := y
        rw [e3] at h
        cases h
        have h2 := digR_le e3
        have h3 := skipR_le t2
        omega
     · have h2 := digR_le h
       simp only [List.length_cons] at h2
       omega
  · cases h; simp only [List.length_cons]; omega
theorem powT_ok {p u q : UQ} {dir : Int} {a : Nat} {R : PR (Int × List Nat)} {l2 : List Nat} (h : powT p u dir a R = .ok (q, l2)) : ∃ n l, R = .ok (n, l) ∧ mulU p u (dir * n) = some q ∧ l2 = skipR l ∧ ¬ 64 < n.natAbs := by
 cases R with
 | bad e r => cases h
 | ok y =>
  obtain ⟨n, l⟩ := y
  unfold powT at h
  dsimp only at h
  split at h
  · cases h
  · rename_i h64
    split at h
    · cases h
    · rename_i q' hm
      cases h
      exact ⟨n, l, rfl, hm, rfl, h64⟩
theorem pieceR_ok {M : Tb} {dir : Int} {p q : UQ} {l l2 : List Nat} (hM : TbOk M) (hp : okU p) (h : pieceR M dir p l = .ok (q, l2)) : okU q ∧ l2.length < l.length := by
 unfold pieceR at h
 have h0 := skipR_le l
 cases e : skipR l with
 | nil => rw [e] at h; cases h
 | cons c t =>
  rw [e] at h h0
  simp only [List.length_cons] at h0
  rw [pieceT_cons] at h
  split at h
  · cases h
    have := skipR_le t
    exact ⟨hp, by omega⟩
  · split at h
    · split at h
      · cases h
      · cases hl : M.lookup ((c :: t).take (nameN (c :: t))) with
        | none => rw [hl] at h; cases h
        | some u =>
         rw [hl] at h
         obtain ⟨n, l3, h1, h2, rfl, _⟩ := powT_ok h
         refine ⟨okU_mul hp (hM.ok hl) h2, ?_⟩
         have h3 := expR_le h1
         have h4 := skipR_le l3
         rw [List.length_drop, List.length_cons] at h3
         rename_i hlet _ _
         have h5 : 1 ≤ nameN (c :: t) := by rw [nameN_cons, if_pos hlet]; omega
         omega
    · cases h
theorem parseR_succ (M : Tb) (f : Nat) (dir : Int) (p : UQ) (l : List Nat) : parseR M (f + 1) dir p l = match pieceR M dir p l with
 | .bad e r => .bad e r
 | .ok (q, []) => .ok q
 | .ok (q, c :: l2) => if c = 42 then parseR M f 1 q l2 else if c = 47 then parseR M f (-1) q l2 else .bad 12 (l2.length + 1) := rfl
section
variable {M : Tb} {f j : Nat} {dir x : Int} {p q : UQ} {l s : List Nat} {r : Nat}
theorem parse_bad (h : pieceR M dir p l = .bad x r) : parseR M (f + 1) dir p l = .bad x r := by rw [parseR_succ, h]
theorem parse_end (h : pieceR M dir p l = .ok (q, s.drop j)) (hj : s.length ≤ j) : parseR M (f + 1) dir p l = .ok q := by rw [parseR_succ, h, List.drop_eq_nil_of_le hj]
theorem parse_mul (h : pieceR M dir p l = .ok (q, s.drop j)) (hj : j < s.length) (hc : lim s j = 42) : parseR M (f + 1) dir p l = parseR M f 1 q (s.drop (j + 1)) := by
 rw [parseR_succ, h, drop_at hj, hc]; rfl
theorem parse_div (h : pieceR M dir p l = .ok (q, s.drop j)) (hj : j < s.length) (hc : lim s j = 47) : parseR M (f + 1) dir p l = parseR M f (-1) q (s.drop (j + 1)) := by
 rw [parseR_succ, h, drop_at hj, hc]; rfl
theorem parse_no (h : pieceR M dir p l = .ok (q, s.drop j)) (hj : j < s.length) (h1 : lim s j ≠ 42) (h2 : lim s j ≠ 47) : parseR M (f + 1) dir p l = .bad 12 (s.length - j) := by
 rw [parseR_succ, h, drop_at hj]
 dsimp only
 rw [if_neg h1, if_neg h2]
 congr 1
 rw [List.length_drop]; omega
end
def PiecesP (w' : World) (rb mb : Nat) (s : ByteArray) (E A : Int) : PR UQ → Prop
 | .ok q => E = 0 ∧ A = 0 ∧ okU q ∧ ∃ j L', Rd w' rb mb s j L' ∧ UV w' L'.toArray (some q.1) q.2
 | .bad x r => E = x ∧ A = (s.size : Int) - (r : Int) ∧ x ≠ 0
end Go.Proofs.YtohokfbohdoijaaGreatDoor
