/- Part 6 of the texts that the statements of this seat lean on: mathematics, and what functions answer, as contracts over memory; each part says its own conditions. -/
import Derived.Test.YtheaepceghnkpaaGreatDoorM5
/- What the reference of layer 16 answers of a declaration that may be, as a contract over memory. Conditions: a declaration that may be, its formula reads in memory; texts of at most 10^6 bytes. -/
namespace Go.Proofs.YtheaepceghnkpaaGreatDoor
open Go.RowKit Limb
set_option linter.unusedVariables false
set_option maxHeartbeats 4000000 in
set_option maxRecDepth 100000 in
theorem rDGood_c {w : World} {d : Dc} {nm ot nu va un : ByteArray} {B : Option Addr} {m kk : Nat} (u1 : strOf d.nm = nm) (u2 : strOf d.ot = ot) (u3 : strOf d.nu = nu) (u4 : strOf d.va = va) (u5 : strOf d.un = un) (h : TreR w B m kk d.tr) (hmi : Mild d.tr) (hs : nm.size ≤ 1000000 ∧ ot.size ≤ 1000000 ∧ nu.size ≤ 1000000 ∧ va.size ≤ 1000000) (hg : goodD d = true) :
 Calls Tryz.prog 15 #[.agg (dcC d.k nm ot nu va un B m kk d.pl d.at')] w fun e w' => e = .returned (.bool true) ∧ Below w.heap.size w w' := by
 obtain ⟨s1, s2, s3, s4⟩ := hs
 obtain ⟨k, dn, dot, dnu, dva, dun, tr, pl, at1⟩ := d
 dsimp only at u1 u2 u3 u4 u5 h hmi
 unfold goodD at hg
 dsimp only at hg
 rw [Bool.and_eq_true, Bool.and_eq_true] at hg
 obtain ⟨⟨g1, g2⟩, g3⟩ := hg
 have HNM : Hid (isNam (bytesOf nm) = true) := by show _ = _; rw [← u1, bytesOf_strOf (isNam_bytes g1)]; exact g1
 obtain ⟨v1, v2, v3⟩ := unitG_facts g2
 have HUN : Hid (unitOk un = true) := by show _ = _; rw [← u5]; exact unitOk_of v1 v2 v3
 have s5 : un.size ≤ 200 := by rw [← u5, size_strOf]; exact v2
 have HMI := Lib.hid hmi
 have hn := h.1
 have eq1 : maxLen = 9223372036854775807 := rfl
 have hk1 := h.2.1
 have hk2 := h.2.2.1
 by_cases h1k : k = 1
 · subst h1k
   rw [if_pos rfl] at g3
   simp only [Bool.and_eq_true, decide_eq_true_eq] at g3
   obtain ⟨⟨⟨⟨⟨p1, p2⟩, rfl⟩, rfl⟩, p5⟩, rfl⟩ := g3
   obtain rfl : ot = ⟨#[]⟩ := by rw [← u2]; rfl
   obtain rfl : va = ⟨#[]⟩ := by rw [← u4]; rfl
   obtain rfl : m = 0 := by omega
   have HNU : Hid (numG (bytesOf nu) = true) := by show _ = _; rw [← u3, bytesOf_strOf (numG_bytes p1)]; exact p1
   have hun : ¬ un.toList = [] := by rw [← u5]; intro e; rw [ByteArray.toList_eq] at e; have h9 : (strOf dun).data.toList.length = 0 := (by rw [e]; rfl); have h8 : (strOf dun).data.toList.length = dun.length := (by rw [Array.length_toList]; exact size_strOf dun); exact p2 (List.eq_nil_of_length_eq_zero (by omega))
   have hem : un.toList.isEmpty = false := List.isEmpty_eq_false_iff.2 hun
   have hem3 : (un.toList == []) = false := by rw [beq_eq_false_iff_ne]; exact hun
   clear u1 u2 u3 u4 u5 g1 g2 v1 v2 v3 p1 p2 hn hmi
   have h1 := rowA_new w 45 (dcC 1 nm ⟨#[]⟩ nu ⟨#[]⟩ un B 0 kk 0 at1)
   have b1 := below_new w (.cells (dcC 1 nm ⟨#[]⟩ nu ⟨#[]⟩ un B 0 kk 0 at1) 45)
   have h3 := rowA_new (w.alloc (.cells (dcC 1 nm ⟨#[]⟩ nu ⟨#[]⟩ un B 0 kk 0 at1) 45)) 45 (dcC 1 nm ⟨#[]⟩ nu ⟨#[]⟩ un B 0 kk 0 at1)
   have b3 := below_new (w.alloc (.cells (dcC 1 nm ⟨#[]⟩ nu ⟨#[]⟩ un B 0 kk 0 at1) 45)) (.cells (dcC 1 nm ⟨#[]⟩ nu ⟨#[]⟩ un B 0 kk 0 at1) 45)
   replace h1 := h1.below b3
   have bw := below_two b1 b3
   rw [World.size_alloc] at h3
   have HI_1 := Lib.hid (rowA_new w 45 (dcC 1 nm ⟨#[]⟩ nu ⟨#[]⟩ un B 0 kk 0 at1)).inV
   have HM_1 := Lib.hid (manyDc 1 nm ⟨#[]⟩ nu ⟨#[]⟩ un B 0 kk 0 at1)
   have HU_1 : Hid (Many Tryz.prog 45 (dcC 1 nm ⟨#[]⟩ nu ⟨#[]⟩ un B 0 kk 0 at1).size ∧ zDc.size = (dcC 1 nm ⟨#[]⟩ nu ⟨#[]⟩ un B 0 kk 0 at1).size ∧ ∀ v ∈ dcC 1 nm ⟨#[]⟩ nu ⟨#[]⟩ un B 0 kk 0 at1, v.oneCell' = true) := ⟨manyDc _ _ _ _ _ _ _ _ _ _ _, rfl, by simp [Value.oneCell']⟩
   have z1 := (rowA_new w 45 (dcC 1 nm ⟨#[]⟩ nu ⟨#[]⟩ un B 0 kk 0 at1)).cell (k := 1) (v := .string nm) rfl
   have z5 := (rowA_new w 45 (dcC 1 nm ⟨#[]⟩ nu ⟨#[]⟩ un B 0 kk 0 at1)).cell (k := 5) (v := .string un) rfl
   clear b1 b3
   go_enter Tryz.func15, Tryz.ntmps15
   go_upto_region 4 with (first | (refine wpList_loadV (by rfl) _ _ (by rfl) _ _ (by rfl) _ (by assumption) (by assumption) ?_) | (refine wpList_storeNew (by rfl) _ _ _ (by rfl) _ _ _ (by rfl) (by rfl) (by assumption) ?_) | (go_at_call 36; (with_reducible refine (rxIsName_c nm (by omega) _ true HNM.out).mono ?_); rintro e wx ⟨rfl, rfl⟩) | (go_at_call 37; (with_reducible refine (rUnits_c un (by omega) true HUN.out _).mono ?_); rintro e wx ⟨rfl, rfl⟩))
   try dsimp only [Act.put]
   generalize (w.alloc (.cells (dcC 1 nm ⟨#[]⟩ nu ⟨#[]⟩ un B 0 kk 0 at1) 45)).alloc (.cells (dcC 1 nm ⟨#[]⟩ nu ⟨#[]⟩ un B 0 kk 0 at1) 45) = wS at *
   obtain ⟨q3, e3⟩ : ∃ g, g = w.heap.size + 1 := ⟨_, rfl⟩
   obtain ⟨q1, e1⟩ : ∃ g, g = w.heap.size := ⟨_, rfl⟩
   rw [← e3] at h3 ⊢
   rw [← e1] at h1 ⊢
   have hq : q1 ≠ q3 := by omega
   have HQ3 : Hid (w.heap.size ≤ q3) := by show _ ≤ _; omega
   clear e1 e3 HI_1 HM_1 HU_1 z1 z5
   have x0 := h1.cell (k := 0) (v := .int .i64 1) rfl
   have x1 := h1.cell (k := 1) (v := .string nm) rfl
   have x2 := h1.cell (k := 2) (v := .string ⟨#[]⟩) rfl
   have x3 := h1.cell (k := 3) (v := .string nu) rfl
   have x4 := h1.cell (k := 4) (v := .string ⟨#[]⟩) rfl
   have x5 := h1.cell (k := 5) (v := .string un) rfl
   have x6 := h1.cell (k := 6) (v := .slice B 0 kk) rfl
   have x7 := h1.cell (k := 7) (v := .int .i64 0) rfl
   have x8 := h1.cell (k := 8) (v := .int .i64 at1) rfl
   have y2 := h3.cell (k := 2) (v := .string ⟨#[]⟩) rfl
   have y3 := h3.cell (k := 3) (v := .string nu) rfl
   have y4 := h3.cell (k := 4) (v := .string ⟨#[]⟩) rfl
   have y5 := h3.cell (k := 5) (v := .string un) rfl
   have y6 := h3.cell (k := 6) (v := .slice B 0 kk) rfl
   have y7 := h3.cell (k := 7) (v := .int .i64 0) rfl
   have f3 := h3.free 3
   have f5 := h3.free 5
   have HB : Hid (Below w.heap.size w ((wS.setCell ⟨q3, 3, none⟩ (.string ⟨#[]⟩)).setCell ⟨q3, 5, none⟩ (.string ⟨#[]⟩))) := (below_set (below_set bw HQ3.out 3 _) HQ3.out 5 _)
   clear h1 h3 bw
   go_wp2_with (first | (go_at_call 38; (with_reducible refine (rNum_c nu (by omega) _ HNU.out).mono ?_); rintro e wx ⟨rfl, rfl⟩))
   go_ret
   exact ⟨rfl, HB.out⟩
 · by_cases h2k : k = 2
   · subst h2k
     rw [if_neg (by decide), if_pos rfl] at g3
     simp only [Bool.and_eq_true, decide_eq_true_eq] at g3
     obtain ⟨⟨⟨⟨p1, p2⟩, rfl⟩, p5⟩, rfl⟩ := g3
     obtain rfl : ot = ⟨#[]⟩ := by rw [← u2]; rfl
     obtain rfl : m = 0 := by omega
     have HNU : Hid (numG (bytesOf nu) = true) := by show _ = _; rw [← u3, bytesOf_strOf (numG_bytes p1)]; exact p1
     have HVA : Hid (numG (bytesOf va) = true) := by show _ = _; rw [← u4, bytesOf_strOf (numG_bytes p2)]; exact p2
     clear u1 u2 u3 u4 u5 g1 g2 v1 v2 v3 p1 p2 hn hmi
     have h1 := rowA_new w 45 (dcC 2 nm ⟨#[]⟩ nu va un B 0 kk 0 at1)
     have b1 := below_new w (.cells (dcC 2 nm ⟨#[]⟩ nu va un B 0 kk 0 at1) 45)
     have h3 := rowA_new (w.alloc (.cells (dcC 2 nm ⟨#[]⟩ nu va un B 0 kk 0 at1) 45)) 45 (dcC 2 nm ⟨#[]⟩ nu va un B 0 kk 0 at1)
     have b3 := below_new (w.alloc (.cells (dcC 2 nm ⟨#[]⟩ nu va un B 0 kk 0 at1) 45)) (.cells (dcC 2 nm ⟨#[]⟩ nu va un B 0 kk 0 at1) 45)
     replace h1 := h1.below b3
     have bw := below_two b1 b3
     rw [World.size_alloc] at h3
     have HI_1 := Lib.hid (rowA_new w 45 (dcC 2 nm ⟨#[]⟩ nu va un B 0 kk 0 at1)).inV
     have HM_1 := Lib.hid (manyDc 2 nm ⟨#[]⟩ nu va un B 0 kk 0 at1)
     have HU_1 : Hid (Many Tryz.prog 45 (dcC 2 nm ⟨#[]⟩ nu va un B 0 kk 0 at1).size ∧ zDc.size = (dcC 2 nm ⟨#[]⟩ nu va un B 0 kk 0 at1).size ∧ ∀ v ∈ dcC 2 nm ⟨#[]⟩ nu va un B 0 kk 0 at1, v.oneCell' = true) := ⟨manyDc _ _ _ _ _ _ _ _ _ _ _, rfl, by simp [Value.oneCell']⟩
     have z1 := (rowA_new w 45 (dcC 2 nm ⟨#[]⟩ nu va un B 0 kk 0 at1)).cell (k := 1) (v := .string nm) rfl
     have z5 := (rowA_new w 45 (dcC 2 nm ⟨#[]⟩ nu va un B 0 kk 0 at1)).cell (k := 5) (v := .string un) rfl
     clear b1 b3
     go_enter Tryz.func15, Tryz.ntmps15
     go_upto_region 4 with (first | (refine wpList_loadV (by rfl) _ _ (by rfl) _ _ (by rfl) _ (by assumption) (by assumption) ?_) | (refine wpList_storeNew (by rfl) _ _ _ (by rfl) _ _ _ (by rfl) (by rfl) (by assumption) ?_) | (go_at_call 36; (with_reducible refine (rxIsName_c nm (by omega) _ true HNM.out).mono ?_); rintro e wx ⟨rfl, rfl⟩) | (go_at_call 37; (with_reducible refine (rUnits_c un (by omega) true HUN.out _).mono ?_); rintro e wx ⟨rfl, rfl⟩))
     try dsimp only [Act.put]
     generalize (w.alloc (.cells (dcC 2 nm ⟨#[]⟩ nu va un B 0 kk 0 at1) 45)).alloc (.cells (dcC 2 nm ⟨#[]⟩ nu va un B 0 kk 0 at1) 45) = wS at *
     obtain ⟨q3, e3⟩ : ∃ g, g = w.heap.size + 1 := ⟨_, rfl⟩
     obtain ⟨q1, e1⟩ : ∃ g, g = w.heap.size := ⟨_, rfl⟩
     rw [← e3] at h3 ⊢
     rw [← e1] at h1 ⊢
     have hq : q1 ≠ q3 := by omega
     have HQ3 : Hid (w.heap.size ≤ q3) := by show _ ≤ _; omega
     clear e1 e3 HI_1 HM_1 HU_1 z1 z5
     have x0 := h1.cell (k := 0) (v := .int .i64 2) rfl
     have x1 := h1.cell (k := 1) (v := .string nm) rfl
     have x2 := h1.cell (k := 2) (v := .string ⟨#[]⟩) rfl
     have x3 := h1.cell (k := 3) (v := .string nu) rfl
     have x4 := h1.cell (k := 4) (v := .string va) rfl
     have x5 := h1.cell (k := 5) (v := .string un) rfl
     have x6 := h1.cell (k := 6) (v := .slice B 0 kk) rfl
     have x7 := h1.cell (k := 7) (v := .int .i64 0) rfl
     have x8 := h1.cell (k := 8) (v := .int .i64 at1) rfl
     have y2 := h3.cell (k := 2) (v := .string ⟨#[]⟩) rfl
     have y3 := h3.cell (k := 3) (v := .string nu) rfl
     have y4 := h3.cell (k := 4) (v := .string va) rfl
     have y5 := h3.cell (k := 5) (v := .string un) rfl
     have y6 := h3.cell (k := 6) (v := .slice B 0 kk) rfl
     have y7 := h3.cell (k := 7) (v := .int .i64 0) rfl
     have f3 := h3.free 3
     have f4 := h3.free 4
     have f5 := h3.free 5
     have HB : Hid (Below w.heap.size w (((wS.setCell ⟨q3, 3, none⟩ (.string ⟨#[]⟩)).setCell ⟨q3, 4, none⟩ (.string ⟨#[]⟩)).setCell ⟨q3, 5, none⟩ (.string ⟨#[]⟩))) := (below_set (below_set (below_set bw HQ3.out 3 _) HQ3.out 4 _) HQ3.out 5 _)
     clear h1 h3 bw
     go_wp2_with (first | (go_at_call 38; (with_reducible refine (rNum_c nu (by omega) _ HNU.out).mono ?_); rintro e wx ⟨rfl, rfl⟩) | (go_at_call 38; (with_reducible refine (rNum_c va (by omega) _ HVA.out).mono ?_); rintro e wx ⟨rfl, rfl⟩))
     go_ret
     exact ⟨rfl, HB.out⟩
   · by_cases h3k : k = 3
     · subst h3k
       rw [if_neg (by decide), if_neg (by decide), if_pos rfl] at g3
       simp only [Bool.and_eq_true, decide_eq_true_eq] at g3
       obtain ⟨⟨⟨⟨⟨p1, p2⟩, rfl⟩, rfl⟩, p5⟩, rfl⟩ := g3
       obtain rfl : va = ⟨#[]⟩ := by rw [← u4]; rfl
       obtain rfl : un = ⟨#[]⟩ := by rw [← u5]; rfl
       obtain rfl : m = 0 := by omega
       have HNU : Hid (numG (bytesOf nu) = true) := by show _ = _; rw [← u3, bytesOf_strOf (numG_bytes p1)]; exact p1
       have HOT : Hid (isNam (bytesOf ot) = true) := by show _ = _; rw [← u2, bytesOf_strOf (isNam_bytes p2)]; exact p2
       clear u1 u2 u3 u4 u5 g1 g2 v1 v2 v3 p1 p2 hn hmi
       have h1 := rowA_new w 45 (dcC 3 nm ot nu ⟨#[]⟩ ⟨#[]⟩ B 0 kk 0 at1)
       have b1 := below_new w (.cells (dcC 3 nm ot nu ⟨#[]⟩ ⟨#[]⟩ B 0 kk 0 at1) 45)
       have h3 := rowA_new (w.alloc (.cells (dcC 3 nm ot nu ⟨#[]⟩ ⟨#[]⟩ B 0 kk 0 at1) 45)) 45 (dcC 3 nm ot nu ⟨#[]⟩ ⟨#[]⟩ B 0 kk 0 at1)
       have b3 := below_new (w.alloc (.cells (dcC 3 nm ot nu ⟨#[]⟩ ⟨#[]⟩ B 0 kk 0 at1) 45)) (.cells (dcC 3 nm ot nu ⟨#[]⟩ ⟨#[]⟩ B 0 kk 0 at1) 45)
       replace h1 := h1.below b3
       have bw := below_two b1 b3
       rw [World.size_alloc] at h3
       have HI_1 := Lib.hid (rowA_new w 45 (dcC 3 nm ot nu ⟨#[]⟩ ⟨#[]⟩ B 0 kk 0 at1)).inV
       have HM_1 := Lib.hid (manyDc 3 nm ot nu ⟨#[]⟩ ⟨#[]⟩ B 0 kk 0 at1)
       have HU_1 : Hid (Many Tryz.prog 45 (dcC 3 nm ot nu ⟨#[]⟩ ⟨#[]⟩ B 0 kk 0 at1).size ∧ zDc.size = (dcC 3 nm ot nu ⟨#[]⟩ ⟨#[]⟩ B 0 kk 0 at1).size ∧ ∀ v ∈ dcC 3 nm ot nu ⟨#[]⟩ ⟨#[]⟩ B 0 kk 0 at1, v.oneCell' = true) := ⟨manyDc _ _ _ _ _ _ _ _ _ _ _, rfl, by simp [Value.oneCell']⟩
       have z1 := (rowA_new w 45 (dcC 3 nm ot nu ⟨#[]⟩ ⟨#[]⟩ B 0 kk 0 at1)).cell (k := 1) (v := .string nm) rfl
       have z5 := (rowA_new w 45 (dcC 3 nm ot nu ⟨#[]⟩ ⟨#[]⟩ B 0 kk 0 at1)).cell (k := 5) (v := .string ⟨#[]⟩) rfl
       clear b1 b3
       go_enter Tryz.func15, Tryz.ntmps15
       go_upto_region 4 with (first | (refine wpList_loadV (by rfl) _ _ (by rfl) _ _ (by rfl) _ (by assumption) (by assumption) ?_) | (refine wpList_storeNew (by rfl) _ _ _ (by rfl) _ _ _ (by rfl) (by rfl) (by assumption) ?_) | (go_at_call 36; (with_reducible refine (rxIsName_c nm (by omega) _ true HNM.out).mono ?_); rintro e wx ⟨rfl, rfl⟩) | (go_at_call 37; (with_reducible refine (rUnits_c ⟨#[]⟩ (by omega) true HUN.out _).mono ?_); rintro e wx ⟨rfl, rfl⟩))
       try dsimp only [Act.put]
       generalize (w.alloc (.cells (dcC 3 nm ot nu ⟨#[]⟩ ⟨#[]⟩ B 0 kk 0 at1) 45)).alloc (.cells (dcC 3 nm ot nu ⟨#[]⟩ ⟨#[]⟩ B 0 kk 0 at1) 45) = wS at *
       obtain ⟨q3, e3⟩ : ∃ g, g = w.heap.size + 1 := ⟨_, rfl⟩
       obtain ⟨q1, e1⟩ : ∃ g, g = w.heap.size := ⟨_, rfl⟩
       rw [← e3] at h3 ⊢
       rw [← e1] at h1 ⊢
       have hq : q1 ≠ q3 := by omega
       have HQ3 : Hid (w.heap.size ≤ q3) := by show _ ≤ _; omega
       clear e1 e3 HI_1 HM_1 HU_1 z1 z5
       have x0 := h1.cell (k := 0) (v := .int .i64 3) rfl
       have x1 := h1.cell (k := 1) (v := .string nm) rfl
       have x2 := h1.cell (k := 2) (v := .string ot) rfl
       have x3 := h1.cell (k := 3) (v := .string nu) rfl
       have x4 := h1.cell (k := 4) (v := .string ⟨#[]⟩) rfl
       have x5 := h1.cell (k := 5) (v := .string ⟨#[]⟩) rfl
       have x6 := h1.cell (k := 6) (v := .slice B 0 kk) rfl
       have x7 := h1.cell (k := 7) (v := .int .i64 0) rfl
       have x8 := h1.cell (k := 8) (v := .int .i64 at1) rfl
       have y2 := h3.cell (k := 2) (v := .string ot) rfl
       have y3 := h3.cell (k := 3) (v := .string nu) rfl
       have y4 := h3.cell (k := 4) (v := .string ⟨#[]⟩) rfl
       have y5 := h3.cell (k := 5) (v := .string ⟨#[]⟩) rfl
       have y6 := h3.cell (k := 6) (v := .slice B 0 kk) rfl
       have y7 := h3.cell (k := 7) (v := .int .i64 0) rfl
       have f3 := h3.free 3
       have f2 := h3.free 2
       have HB : Hid (Below w.heap.size w ((wS.setCell ⟨q3, 3, none⟩ (.string ⟨#[]⟩)).setCell ⟨q3, 2, none⟩ (.string ⟨#[]⟩))) := (below_set (below_set bw HQ3.out 3 _) HQ3.out 2 _)
       clear h1 h3 bw
       go_wp2_with (first | (go_at_call 38; (with_reducible refine (rNum_c nu (by omega) _ HNU.out).mono ?_); rintro e wx ⟨rfl, rfl⟩) | (go_at_call 36; (with_reducible refine (rxIsName_c ot (by omega) _ true HOT.out).mono ?_); rintro e wx ⟨rfl, rfl⟩))
       go_ret
       exact ⟨rfl, HB.out⟩
     · by_cases h4k : k = 4
       · subst h4k
         rw [if_neg (by decide), if_neg (by decide), if_neg (by decide), if_pos rfl] at g3
         simp only [Bool.and_eq_true, decide_eq_true_eq] at g3
         obtain ⟨⟨⟨⟨⟨p1, rfl⟩, rfl⟩, rfl⟩, rfl⟩, rfl⟩ := g3
         obtain rfl : ot = ⟨#[]⟩ := by rw [← u2]; rfl
         obtain rfl : nu = ⟨#[]⟩ := by rw [← u3]; rfl
         obtain rfl : va = ⟨#[]⟩ := by rw [← u4]; rfl
         obtain rfl : un = ⟨#[]⟩ := by rw [← u5]; rfl
         have HGT := Lib.hid p1
         clear u1 u2 u3 u4 u5 g1 g2 v1 v2 v3 p1 hmi hn
         have h1 := rowA_new w 45 (dcC 4 nm ⟨#[]⟩ ⟨#[]⟩ ⟨#[]⟩ ⟨#[]⟩ B m kk 0 at1)
         have b1 := below_new w (.cells (dcC 4 nm ⟨#[]⟩ ⟨#[]⟩ ⟨#[]⟩ ⟨#[]⟩ B m kk 0 at1) 45)
         have h3 := rowA_new (w.alloc (.cells (dcC 4 nm ⟨#[]⟩ ⟨#[]⟩ ⟨#[]⟩ ⟨#[]⟩ B m kk 0 at1) 45)) 45 (dcC 4 nm ⟨#[]⟩ ⟨#[]⟩ ⟨#[]⟩ ⟨#[]⟩ B m kk 0 at1)
         have b3 := below_new (w.alloc (.cells (dcC 4 nm ⟨#[]⟩ ⟨#[]⟩ ⟨#[]⟩ ⟨#[]⟩ B m kk 0 at1) 45)) (.cells (dcC 4 nm ⟨#[]⟩ ⟨#[]⟩ ⟨#[]⟩ ⟨#[]⟩ B m kk 0 at1) 45)
         replace h1 := h1.below b3
         have bw := below_two b1 b3
         rw [World.size_alloc] at h3
         have HI_1 := Lib.hid (rowA_new w 45 (dcC 4 nm ⟨#[]⟩ ⟨#[]⟩ ⟨#[]⟩ ⟨#[]⟩ B m kk 0 at1)).inV
         have HM_1 := Lib.hid (manyDc 4 nm ⟨#[]⟩ ⟨#[]⟩ ⟨#[]⟩ ⟨#[]⟩ B m kk 0 at1)
         have HU_1 : Hid (Many Tryz.prog 45 (dcC 4 nm ⟨#[]⟩ ⟨#[]⟩ ⟨#[]⟩ ⟨#[]⟩ B m kk 0 at1).size ∧ zDc.size = (dcC 4 nm ⟨#[]⟩ ⟨#[]⟩ ⟨#[]⟩ ⟨#[]⟩ B m kk 0 at1).size ∧ ∀ v ∈ dcC 4 nm ⟨#[]⟩ ⟨#[]⟩ ⟨#[]⟩ ⟨#[]⟩ B m kk 0 at1, v.oneCell' = true) := ⟨manyDc _ _ _ _ _ _ _ _ _ _ _, rfl, by simp [Value.oneCell']⟩
         have z1 := (rowA_new w 45 (dcC 4 nm ⟨#[]⟩ ⟨#[]⟩ ⟨#[]⟩ ⟨#[]⟩ B m kk 0 at1)).cell (k := 1) (v := .string nm) rfl
         have z5 := (rowA_new w 45 (dcC 4 nm ⟨#[]⟩ ⟨#[]⟩ ⟨#[]⟩ ⟨#[]⟩ B m kk 0 at1)).cell (k := 5) (v := .string ⟨#[]⟩) rfl
         clear b1 b3
         go_enter Tryz.func15, Tryz.ntmps15
         go_upto_region 4 with (first | (refine wpList_loadV (by rfl) _ _ (by rfl) _ _ (by rfl) _ (by assumption) (by assumption) ?_) | (refine wpList_storeNew (by rfl) _ _ _ (by rfl) _ _ _ (by rfl) (by rfl) (by assumption) ?_) | (go_at_call 36; (with_reducible refine (rxIsName_c nm (by omega) _ true HNM.out).mono ?_); rintro e wx ⟨rfl, rfl⟩) | (go_at_call 37; (with_reducible refine (rUnits_c ⟨#[]⟩ (by omega) true HUN.out _).mono ?_); rintro e wx ⟨rfl, rfl⟩))
         try dsimp only [Act.put]
         generalize (w.alloc (.cells (dcC 4 nm ⟨#[]⟩ ⟨#[]⟩ ⟨#[]⟩ ⟨#[]⟩ B m kk 0 at1) 45)).alloc (.cells (dcC 4 nm ⟨#[]⟩ ⟨#[]⟩ ⟨#[]⟩ ⟨#[]⟩ B m kk 0 at1) 45) = wS at *
         obtain ⟨q3, e3⟩ : ∃ g, g = w.heap.size + 1 := ⟨_, rfl⟩
         obtain ⟨q1, e1⟩ : ∃ g, g = w.heap.size := ⟨_, rfl⟩
         rw [← e3] at h3 ⊢
         rw [← e1] at h1 ⊢
         have hq : q1 ≠ q3 := by omega
         have HQ3 : Hid (w.heap.size ≤ q3) := by show _ ≤ _; omega
         clear e1 e3 HI_1 HM_1 HU_1 z1 z5
         have x0 := h1.cell (k := 0) (v := .int .i64 4) rfl
         have x1 := h1.cell (k := 1) (v := .string nm) rfl
         have x2 := h1.cell (k := 2) (v := .string ⟨#[]⟩) rfl
         have x3 := h1.cell (k := 3) (v := .string ⟨#[]⟩) rfl
         have x4 := h1.cell (k := 4) (v := .string ⟨#[]⟩) rfl
         have x5 := h1.cell (k := 5) (v := .string ⟨#[]⟩) rfl
         have x6 := h1.cell (k := 6) (v := .slice B m kk) rfl
         have x7 := h1.cell (k := 7) (v := .int .i64 0) rfl
         have x8 := h1.cell (k := 8) (v := .int .i64 at1) rfl
         have y2 := h3.cell (k := 2) (v := .string ⟨#[]⟩) rfl
         have y3 := h3.cell (k := 3) (v := .string ⟨#[]⟩) rfl
         have y4 := h3.cell (k := 4) (v := .string ⟨#[]⟩) rfl
         have y5 := h3.cell (k := 5) (v := .string ⟨#[]⟩) rfl
         have y6 := h3.cell (k := 6) (v := .slice B m kk) rfl
         have y7 := h3.cell (k := 7) (v := .int .i64 0) rfl
         have f6 := h3.free 6
         have HB : Hid (Below w.heap.size w (wS.setCell ⟨q3, 6, none⟩ (.slice none 0 0))) := (below_set bw HQ3.out 6 _)
         have H3 : Hid (RowA (wS.setCell ⟨q3, 6, none⟩ (.slice none 0 0)) q3 45 (dcC 4 nm ⟨#[]⟩ ⟨#[]⟩ ⟨#[]⟩ ⟨#[]⟩ none 0 0 0 at1)) := (RowA.set h3 6 (.slice none 0 0))
         have H1 : Hid (RowA (wS.setCell ⟨q3, 6, none⟩ (.slice none 0 0)) q1 45 (dcC 4 nm ⟨#[]⟩ ⟨#[]⟩ ⟨#[]⟩ ⟨#[]⟩ B m kk 0 at1)) := (RowA.far h1 hq.symm 6 _)
         go_upto_region 20 with fail
         generalize wS.setCell ⟨q3, 6, none⟩ (.slice none 0 0) = wT at *
         clear x0 x1 x2 x3 x4 x5 x6 x7 x8 y2 y3 y4 y5 y6 y7 f6
         have x6 := H1.out.cell (k := 6) (v := .slice B m kk) rfl
         have x7 := H1.out.cell (k := 7) (v := .int .i64 0) rfl
         have HT := Lib.hid (h.below HB.out)
         clear h bw h1 h3
         go_wp2_with (first | (go_at_call 17; (with_reducible refine (rTGood_c HT.out HMI.out true HGT.out).mono ?_); rintro e wx ⟨rfl, bn⟩; have bn2 := bn; have HB2 := Lib.hid (below_two HB.out bn); have hX := H1.out.below bn; have hY := H3.out.below bn; have x7 := hX.cell (k := 7) (v := .int .i64 0) rfl; have y2 := hY.cell (k := 2) (v := .string ⟨#[]⟩) rfl; have y3 := hY.cell (k := 3) (v := .string ⟨#[]⟩) rfl; have y4 := hY.cell (k := 4) (v := .string ⟨#[]⟩) rfl; have y5 := hY.cell (k := 5) (v := .string ⟨#[]⟩) rfl; have y6 := hY.cell (k := 6) (v := .slice none 0 0) rfl; have y7 := hY.cell (k := 7) (v := .int .i64 0) rfl; clear hX hY bn bn2))
         go_ret
         exact ⟨rfl, HB2.out⟩
       · by_cases h5k : k = 5
         · subst h5k
           rw [if_neg (by decide), if_neg (by decide), if_neg (by decide), if_neg (by decide), if_pos rfl] at g3
           simp only [Bool.and_eq_true, decide_eq_true_eq] at g3
           obtain ⟨⟨⟨⟨⟨p1, p2⟩, p3⟩, rfl⟩, rfl⟩, rfl⟩ := g3
           obtain rfl : ot = ⟨#[]⟩ := by rw [← u2]; rfl
           obtain rfl : nu = ⟨#[]⟩ := by rw [← u3]; rfl
           obtain rfl : va = ⟨#[]⟩ := by rw [← u4]; rfl
           have HGT := Lib.hid p1
           clear u1 u2 u3 u4 u5 g1 g2 v1 v2 v3 p1 hmi hn
           have h1 := rowA_new w 45 (dcC 5 nm ⟨#[]⟩ ⟨#[]⟩ ⟨#[]⟩ un B m kk pl at1)
           have b1 := below_new w (.cells (dcC 5 nm ⟨#[]⟩ ⟨#[]⟩ ⟨#[]⟩ un B m kk pl at1) 45)
           have h3 := rowA_new (w.alloc (.cells (dcC 5 nm ⟨#[]⟩ ⟨#[]⟩ ⟨#[]⟩ un B m kk pl at1) 45)) 45 (dcC 5 nm ⟨#[]⟩ ⟨#[]⟩ ⟨#[]⟩ un B m kk pl at1)
           have b3 := below_new (w.alloc (.cells (dcC 5 nm ⟨#[]⟩ ⟨#[]⟩ ⟨#[]⟩ un B m kk pl at1) 45)) (.cells (dcC 5 nm ⟨#[]⟩ ⟨#[]⟩ ⟨#[]⟩ un B m kk pl at1) 45)
           replace h1 := h1.below b3
           have bw := below_two b1 b3
           rw [World.size_alloc] at h3
           have HI_1 := Lib.hid (rowA_new w 45 (dcC 5 nm ⟨#[]⟩ ⟨#[]⟩ ⟨#[]⟩ un B m kk pl at1)).inV
           have HM_1 := Lib.hid (manyDc 5 nm ⟨#[]⟩ ⟨#[]⟩ ⟨#[]⟩ un B m kk pl at1)
           have HU_1 : Hid (Many Tryz.prog 45 (dcC 5 nm ⟨#[]⟩ ⟨#[]⟩ ⟨#[]⟩ un B m kk pl at1).size ∧ zDc.size = (dcC 5 nm ⟨#[]⟩ ⟨#[]⟩ ⟨#[]⟩ un B m kk pl at1).size ∧ ∀ v ∈ dcC 5 nm ⟨#[]⟩ ⟨#[]⟩ ⟨#[]⟩ un B m kk pl at1, v.oneCell' = true) := ⟨manyDc _ _ _ _ _ _ _ _ _ _ _, rfl, by simp [Value.oneCell']⟩
           have z1 := (rowA_new w 45 (dcC 5 nm ⟨#[]⟩ ⟨#[]⟩ ⟨#[]⟩ un B m kk pl at1)).cell (k := 1) (v := .string nm) rfl
           have z5 := (rowA_new w 45 (dcC 5 nm ⟨#[]⟩ ⟨#[]⟩ ⟨#[]⟩ un B m kk pl at1)).cell (k := 5) (v := .string un) rfl
           clear b1 b3
           go_enter Tryz.func15, Tryz.ntmps15
           go_upto_region 4 with (first | (refine wpList_loadV (by rfl) _ _ (by rfl) _ _ (by rfl) _ (by assumption) (by assumption) ?_) | (refine wpList_storeNew (by rfl) _ _ _ (by rfl) _ _ _ (by rfl) (by rfl) (by assumption) ?_) | (go_at_call 36; (with_reducible refine (rxIsName_c nm (by omega) _ true HNM.out).mono ?_); rintro e wx ⟨rfl, rfl⟩) | (go_at_call 37; (with_reducible refine (rUnits_c un (by omega) true HUN.out _).mono ?_); rintro e wx ⟨rfl, rfl⟩))
           try dsimp only [Act.put]
           generalize (w.alloc (.cells (dcC 5 nm ⟨#[]⟩ ⟨#[]⟩ ⟨#[]⟩ un B m kk pl at1) 45)).alloc (.cells (dcC 5 nm ⟨#[]⟩ ⟨#[]⟩ ⟨#[]⟩ un B m kk pl at1) 45) = wS at *
           obtain ⟨q3, e3⟩ : ∃ g, g = w.heap.size + 1 := ⟨_, rfl⟩
           obtain ⟨q1, e1⟩ : ∃ g, g = w.heap.size := ⟨_, rfl⟩
           rw [← e3] at h3 ⊢
           rw [← e1] at h1 ⊢
           have hq : q1 ≠ q3 := by omega
           have HQ3 : Hid (w.heap.size ≤ q3) := by show _ ≤ _; omega
           clear e1 e3 HI_1 HM_1 HU_1 z1 z5
           have x0 := h1.cell (k := 0) (v := .int .i64 5) rfl
           have x1 := h1.cell (k := 1) (v := .string nm) rfl
           have x2 := h1.cell (k := 2) (v := .string ⟨#[]⟩) rfl
           have x3 := h1.cell (k := 3) (v := .string ⟨#[]⟩) rfl
           have x4 := h1.cell (k := 4) (v := .string ⟨#[]⟩) rfl
           have x5 := h1.cell (k := 5) (v := .string un) rfl
           have x6 := h1.cell (k := 6) (v := .slice B m kk) rfl
           have x7 := h1.cell (k := 7) (v := .int .i64 pl) rfl
           have x8 := h1.cell (k := 8) (v := .int .i64 at1) rfl
           have y2 := h3.cell (k := 2) (v := .string ⟨#[]⟩) rfl
           have y3 := h3.cell (k := 3) (v := .string ⟨#[]⟩) rfl
           have y4 := h3.cell (k := 4) (v := .string ⟨#[]⟩) rfl
           have y5 := h3.cell (k := 5) (v := .string un) rfl
           have y6 := h3.cell (k := 6) (v := .slice B m kk) rfl
           have y7 := h3.cell (k := 7) (v := .int .i64 pl) rfl
           have f6 := h3.free 6
           have f5 := h3.free 5
           have f7 := h3.free 7
           have HB : Hid (Below w.heap.size w (((wS.setCell ⟨q3, 6, none⟩ (.slice none 0 0)).setCell ⟨q3, 5, none⟩ (.string ⟨#[]⟩)).setCell ⟨q3, 7, none⟩ (.int .i64 0))) := (below_set (below_set (below_set bw HQ3.out 6 _) HQ3.out 5 _) HQ3.out 7 _)
           have H3 : Hid (RowA (((wS.setCell ⟨q3, 6, none⟩ (.slice none 0 0)).setCell ⟨q3, 5, none⟩ (.string ⟨#[]⟩)).setCell ⟨q3, 7, none⟩ (.int .i64 0)) q3 45 (dcC 5 nm ⟨#[]⟩ ⟨#[]⟩ ⟨#[]⟩ ⟨#[]⟩ none 0 0 0 at1)) := (RowA.set (RowA.set (RowA.set h3 6 (.slice none 0 0)) 5 (.string ⟨#[]⟩)) 7 (.int .i64 0))
           have H1 : Hid (RowA (((wS.setCell ⟨q3, 6, none⟩ (.slice none 0 0)).setCell ⟨q3, 5, none⟩ (.string ⟨#[]⟩)).setCell ⟨q3, 7, none⟩ (.int .i64 0)) q1 45 (dcC 5 nm ⟨#[]⟩ ⟨#[]⟩ ⟨#[]⟩ un B m kk pl at1)) := (RowA.far (RowA.far (RowA.far h1 hq.symm 6 _) hq.symm 5 _) hq.symm 7 _)
           go_upto_region 24 with fail
           generalize ((wS.setCell ⟨q3, 6, none⟩ (.slice none 0 0)).setCell ⟨q3, 5, none⟩ (.string ⟨#[]⟩)).setCell ⟨q3, 7, none⟩ (.int .i64 0) = wT at *
           clear x0 x1 x2 x3 x4 x5 x6 x7 x8 y2 y3 y4 y5 y6 y7 f6 f5 f7
           have x6 := H1.out.cell (k := 6) (v := .slice B m kk) rfl
           have x7 := H1.out.cell (k := 7) (v := .int .i64 pl) rfl
           have HT := Lib.hid (h.below HB.out)
           clear h bw h1 h3
           go_wp2_with (first | (go_at_call 17; (with_reducible refine (rTGood_c HT.out HMI.out true HGT.out).mono ?_); rintro e wx ⟨rfl, bn⟩; have bn2 := bn; have HB2 := Lib.hid (below_two HB.out bn); have hX := H1.out.below bn; have hY := H3.out.below bn; have x7 := hX.cell (k := 7) (v := .int .i64 pl) rfl; have y2 := hY.cell (k := 2) (v := .string ⟨#[]⟩) rfl; have y3 := hY.cell (k := 3) (v := .string ⟨#[]⟩) rfl; have y4 := hY.cell (k := 4) (v := .string ⟨#[]⟩) rfl; have y5 := hY.cell (k := 5) (v := .string ⟨#[]⟩) rfl; have y6 := hY.cell (k := 6) (v := .slice none 0 0) rfl; have y7 := hY.cell (k := 7) (v := .int .i64 0) rfl; clear hX hY bn bn2))
           go_ret
           exact ⟨rfl, HB2.out⟩
         · rw [if_neg h1k, if_neg h2k, if_neg h3k, if_neg h4k, if_neg h5k] at g3; cases g3
end Go.Proofs.YtheaepceghnkpaaGreatDoor

/- Mathematics of formulas: a tree that may be is a formula's nodes, one behind the other. No condition. -/
namespace Go.Proofs.YtheaepceghnkpaaGreatDoor
open Go.RowKit Limb
set_option linter.unusedVariables false
inductive Fm where
 | lit : ByteArray → ByteArray → Fm
 | ref : ByteArray → Fm
 | two : Int → Fm → Fm → Fm
 | neg : Fm → Fm
 | pow : Int → Fm → Fm
def Fm.nds : Fm → List Nd
 | .lit s u => [⟨1, 0, 0, 0, s, u, 0⟩]
 | .ref s => [⟨2, 0, 0, 0, s, ⟨#[]⟩, 0⟩]
 | .two k a b => joinN k a.nds b.nds 0
 | .neg a => overN 7 0 a.nds 0
 | .pow j a => overN 8 j a.nds 0
def Fm.kind : Fm → Int
 | .lit _ _ => 1
 | .ref _ => 2
 | .two k _ _ => k
 | .neg _ => 7
 | .pow _ _ => 8
def Fm.Ok : Fm → Prop
 | .lit s u => litGood (bytesOf s) = true ∧ unitOk u = true
 | .ref s => isNam (bytesOf s) = true
 | .two k a b => twoK k = true ∧ a.Ok ∧ b.Ok
 | .neg a => a.Ok
 | .pow j a => -64 ≤ j ∧ j ≤ 64 ∧ a.Ok
def Fm.size : Fm → Nat
 | .lit _ _ => 1
 | .ref _ => 1
 | .two _ a b => a.size + b.size + 1
 | .neg a => a.size + 1
 | .pow _ a => a.size + 1
theorem Fm.len : ∀ f : Fm, f.nds.length = f.size
 | .lit _ _ => rfl
 | .ref _ => rfl
 | .two k a b => by unfold Fm.nds joinN Fm.size; rw [List.length_append, List.length_append, List.length_map, a.len, b.len]; rfl
 | .neg a => by unfold Fm.nds overN Fm.size; rw [List.length_append, a.len]; rfl
 | .pow j a => by unfold Fm.nds overN Fm.size; rw [List.length_append, a.len]; rfl
theorem Fm.pos (f : Fm) : 1 ≤ f.size := by cases f <;> simp [Fm.size]
theorem shift_shift (c d : Nat) (x : Nd) : shiftN d (shiftN c x) = shiftN (c + d) x := by
 by_cases h2 : twoK x.k = true
 · rw [shiftN_two h2, shiftN_two (by exact h2), shiftN_two h2]
   simp only [Nd.mk.injEq, true_and, and_true]
   constructor <;> omega
 · by_cases h1 : oneK x.k = true
   · rw [shiftN_one h1, shiftN_one (by exact h1), shiftN_one h1]
     simp only [Nd.mk.injEq, true_and, and_true]
     omega
   · have h2' : twoK x.k = false := by simpa using h2
     have h1' : oneK x.k = false := by simpa using h1
     rw [shiftN_leaf h2' h1', shiftN_leaf h2' h1', shiftN_leaf h2' h1']
def flatR : List Fm → List Nd
 | [] => []
 | f :: r => flatR r ++ f.nds.map (shiftN (flatR r).length)
def ChOk (o : List Nat) : List Fm → Prop
 | [] => True
 | f :: r => o.getD ((flatR (f :: r)).length - 1) 0 = (flatR r).length ∧ ChOk o r
theorem flat_len (f : Fm) (r : List Fm) : (flatR (f :: r)).length = (flatR r).length + f.size := by
 show (flatR r ++ f.nds.map _).length = _
 rw [List.length_append, List.length_map, f.len]
theorem ChOk.snoc {o : List Nat} (s : Nat) : ∀ {fs : List Fm}, ChOk o fs → (flatR fs).length ≤ o.length → ChOk (o ++ [s]) fs
 | [], _, _ => trivial
 | f :: r, h, hl => by
  obtain ⟨h1, h2⟩ := h
  rw [flat_len] at hl
  have hp := f.pos
  refine ⟨?_, h2.snoc s (by omega)⟩
  rw [getD_snoc_lt (by rw [flat_len]; omega)]; exact h1
def Stk (P : List Nd) (o : List Nat) (fs : List Fm) : Prop := P.map bareN = flatR fs ∧ o.length = P.length ∧ ChOk o fs ∧ ∀ f ∈ fs, f.Ok
theorem Stk.step {P : List Nd} {o : List Nat} {fs : List Fm} {x : Nd} {s : Nat} (h : Stk P o fs) (hs : stepB o x = some s) : ∃ gs, Stk (P ++ [x]) (o ++ [s]) gs := by
 obtain ⟨h1, h2, h3, h4⟩ := h
 have hlen : (flatR fs).length = P.length := by rw [← h1, List.length_map]
 obtain ⟨hf, _⟩ := stepB_cases hs
 have hst : startN o x = some s := by unfold stepB at hs; rw [if_pos hf] at hs; exact hs
 have hmap : (P ++ [x]).map bareN = flatR fs ++ [bareN x] := by rw [List.map_append, h1]; rfl
 have hol : (o ++ [s]).length = (P ++ [x]).length := by rw [List.length_append, List.length_append, h2]; rfl
 rcases fitsN_kinds hf with hk | hk | hk | hk
 · -- a literal
   have hs2 := stepB_leaf (o := o) hf (.inl hk)
   rw [hs2] at hs; injection hs with hs; subst hs
   obtain ⟨k, a, b, n, t, u, p⟩ := x
   have hk' : k = 1 := hk
   subst hk'
   unfold fitsN at hf
   rw [if_pos rfl] at hf
   simp only [Bool.and_eq_true, decide_eq_true_eq] at hf
   obtain ⟨⟨⟨⟨rfl, rfl⟩, rfl⟩, g1⟩, g2⟩ := hf
   have hsh : (Fm.lit t u).nds.map (shiftN (flatR fs).length) = [bareN ⟨1, 0, 0, 0, t, u, p⟩] := by
    show [shiftN _ _] = _
    rw [shiftN_leaf rfl rfl]; rfl
   refine ⟨.lit t u :: fs, ?_, hol, ⟨?_, h3.snoc _ (by omega)⟩, fun f hf => ?_⟩
   · rw [hmap]; show _ = flatR fs ++ _; rw [hsh]
   · rw [flat_len]
     show (o ++ [o.length]).getD ((flatR fs).length + 1 - 1) 0 = _
     rw [Nat.add_sub_cancel, hlen, ← h2, getD_snoc_eq]
   · rcases List.mem_cons.1 hf with rfl | hf
     · exact ⟨g1, g2⟩
     · exact h4 f hf
 · -- a name
   have hs2 := stepB_leaf (o := o) hf (.inr hk)
   rw [hs2] at hs; injection hs with hs; subst hs
   obtain ⟨k, a, b, n, t, u, p⟩ := x
   have hk' : k = 2 := hk
   subst hk'
   unfold fitsN at hf
   rw [if_neg (by show ¬ (2 : Int) = 1; decide), if_pos rfl] at hf
   simp only [Bool.and_eq_true, decide_eq_true_eq] at hf
   obtain ⟨⟨⟨⟨rfl, rfl⟩, rfl⟩, g1⟩, g2⟩ := hf
   have hu : u = ⟨#[]⟩ := by
    have h0 : u.data.size = 0 := g1
    have h9 : u.data = #[] := Array.eq_empty_of_size_eq_zero h0
    cases u; exact congrArg ByteArray.mk h9
   subst hu
   have hsh : (Fm.ref t).nds.map (shiftN (flatR fs).length) = [bareN ⟨2, 0, 0, 0, t, ⟨#[]⟩, p⟩] := by
    show [shiftN _ _] = _
    rw [shiftN_leaf rfl rfl]; rfl
   refine ⟨.ref t :: fs, ?_, hol, ⟨?_, h3.snoc _ (by omega)⟩, fun f hf => ?_⟩
   · rw [hmap]; show _ = flatR fs ++ _; rw [hsh]
   · rw [flat_len]
     show (o ++ [o.length]).getD ((flatR fs).length + 1 - 1) 0 = _
     rw [Nat.add_sub_cancel, hlen, ← h2, getD_snoc_eq]
   · rcases List.mem_cons.1 hf with rfl | hf
     · exact g2
     · exact h4 f hf
 · -- two children
   have h36 := twoK_iff.1 hk
   unfold startN at hst
   rw [if_neg (by omega), if_neg (by omega)] at hst
   cases hb : endN o x.b o.length with
   | none => rw [hb] at hst; cases hst
   | some sb =>
    rw [hb] at hst
    dsimp only at hst
    obtain ⟨j, e1, e2, e3⟩ := endN_some hb
    obtain ⟨i, e4, e5, e6⟩ := endN_some hst
    obtain ⟨k, a, b, n, t, u, p⟩ := x
    dsimp only at e1 e4
    have hk2 : twoK k = true := hk
    unfold fitsN at hf
    rw [if_neg (by show ¬ k = 1; have : 3 ≤ k := h36.1; omega), if_neg (by show ¬ k = 2; have : 3 ≤ k := h36.1; omega), if_pos hk] at hf
    simp only [Bool.and_eq_true, decide_eq_true_eq] at hf
    obtain ⟨⟨rfl, g1⟩, g2⟩ := hf
    have ht : t = ⟨#[]⟩ := by cases t; exact congrArg ByteArray.mk (Array.eq_empty_of_size_eq_zero g1)
    have hu : u = ⟨#[]⟩ := by cases u; exact congrArg ByteArray.mk (Array.eq_empty_of_size_eq_zero g2)
    subst ht hu
    cases fs with
    | nil => have h9 : P.length = 0 := by rw [← hlen]; rfl
             omega
    | cons f r =>
     obtain ⟨c1, c2⟩ := h3
     have hfl := flat_len f r
     have hj : (flatR (f :: r)).length - 1 = j := by omega
     rw [hj, ← e3] at c1
     cases r with
     | nil => have h9 : (flatR []).length = 0 := rfl
              omega
     | cons g r =>
      obtain ⟨c3, c4⟩ := c2
      have hgl := flat_len g r
      have hi : (flatR (g :: r)).length - 1 = i := by omega
      rw [hi, ← e6] at c3
      have hfp := f.pos
      have hgp := g.pos
      have hnode : bareN ⟨k, a, b, 0, ⟨#[]⟩, ⟨#[]⟩, p⟩ = shiftN (flatR r).length ⟨k, (g.nds.length : Int) - 1, (g.nds.length : Int) + (f.nds.length : Int) - 1, 0, ⟨#[]⟩, ⟨#[]⟩, 0⟩ := by
       rw [shiftN_two hk2]
       unfold bareN
       simp only [Nd.mk.injEq, true_and, and_true]
       rw [g.len, f.len]
       constructor <;> omega
      refine ⟨.two k g f :: r, ?_, hol, ⟨?_, ?_⟩, fun y hy => ?_⟩
      · rw [hmap, hnode]
        show (flatR r ++ g.nds.map _) ++ f.nds.map _ ++ _ = flatR r ++ (joinN k g.nds f.nds 0).map _
        unfold joinN
        rw [List.map_append, List.map_append, List.map_map, List.append_assoc, List.append_assoc, List.append_assoc]
        congr 2
        congr 1
        · refine List.map_congr_left fun y _ => ?_
          show _ = shiftN _ (shiftN _ y)
          rw [shift_shift, hgl, g.len, Nat.add_comm]
      · have e9 : (flatR (.two k g f :: r)).length - 1 = o.length := by rw [flat_len]; show (flatR r).length + (g.size + f.size + 1) - 1 = _; omega
        rw [e9, getD_snoc_eq]; omega
      · exact c4.snoc s (by omega)
      · rcases List.mem_cons.1 hy with rfl | hy
        · exact ⟨hk2, h4 g (by simp), h4 f (by simp)⟩
        · exact h4 y (by simp [hy])
 · -- one child
   have hk1 : oneK x.k = true := oneK_iff.2 hk
   unfold startN at hst
   rw [if_neg (by omega), if_pos hk] at hst
   obtain ⟨j, e1, e2, e3⟩ := endN_some hst
   cases fs with
   | nil => have h9 : P.length = 0 := by rw [← hlen]; rfl
            omega
   | cons f r =>
    obtain ⟨c1, c2⟩ := h3
    have hfl := flat_len f r
    have hfp := f.pos
    have hj : (flatR (f :: r)).length - 1 = j := by omega
    rw [hj, ← e3] at c1
    obtain ⟨k, a, b, n, t, u, p⟩ := x
    dsimp only at e1 hk hk1
    have fin : ∀ (g : Fm), g.nds = overN k n f.nds 0 → g.size = f.size + 1 → g.Ok → bareN ⟨k, a, b, n, t, u, p⟩ = ⟨k, a, 0, n, ⟨#[]⟩, ⟨#[]⟩, 0⟩ → ∃ gs, Stk (P ++ [⟨k, a, b, n, t, u, p⟩]) (o ++ [s]) gs := by
     intro g hg hsz hok hx
     have hnode : (⟨k, a, 0, n, ⟨#[]⟩, ⟨#[]⟩, 0⟩ : Nd) = shiftN (flatR r).length ⟨k, (f.nds.length : Int) - 1, 0, n, ⟨#[]⟩, ⟨#[]⟩, 0⟩ := by
      rw [shiftN_one hk1]
      simp only [Nd.mk.injEq, true_and, and_true]
      rw [f.len]; omega
     refine ⟨g :: r, ?_, hol, ⟨?_, c2.snoc s (by omega)⟩, fun y hy => ?_⟩
     · rw [hmap, hx, hnode]
       show (flatR r ++ f.nds.map _) ++ _ = flatR r ++ g.nds.map _
       rw [hg]
       unfold overN
       rw [List.map_append, List.append_assoc]; rfl
     · have e9 : (flatR (g :: r)).length - 1 = o.length := by rw [flat_len, hsz]; omega
       rw [e9, getD_snoc_eq]; omega
     · rcases List.mem_cons.1 hy with rfl | hy
       · exact hok
       · exact h4 y (by simp [hy])
    unfold fitsN at hf
    rcases hk with rfl | rfl
    · rw [if_neg (by show ¬ (7 : Int) = 1; decide), if_neg (by show ¬ (7 : Int) = 2; decide), if_neg (by show ¬ twoK 7 = true; decide), if_pos rfl] at hf
      simp only [Bool.and_eq_true, decide_eq_true_eq] at hf
      obtain ⟨⟨⟨rfl, rfl⟩, g1⟩, g2⟩ := hf
      have ht : t = ⟨#[]⟩ := by cases t; exact congrArg ByteArray.mk (Array.eq_empty_of_size_eq_zero g1)
      have hu : u = ⟨#[]⟩ := by cases u; exact congrArg ByteArray.mk (Array.eq_empty_of_size_eq_zero g2)
      subst ht hu
      exact fin (.neg f) rfl rfl (h4 f (by simp)) rfl
    · rw [if_neg (by show ¬ (8 : Int) = 1; decide), if_neg (by show ¬ (8 : Int) = 2; decide), if_neg (by show ¬ twoK 8 = true; decide), if_neg (by show ¬ (8 : Int) = 7; decide), if_pos rfl] at hf
      simp only [Bool.and_eq_true, decide_eq_true_eq] at hf
      obtain ⟨⟨⟨⟨rfl, g1⟩, g2⟩, g3⟩, g4⟩ := hf
      have ht : t = ⟨#[]⟩ := by cases t; exact congrArg ByteArray.mk (Array.eq_empty_of_size_eq_zero g1)
      have hu : u = ⟨#[]⟩ := by cases u; exact congrArg ByteArray.mk (Array.eq_empty_of_size_eq_zero g2)
      subst ht hu
      exact fin (.pow n f) rfl rfl ⟨g3, g4, h4 f (by simp)⟩ rfl
theorem Stk.all {us : List Nd} : ∀ {P : List Nd} {o : List Nat} {fs : List Fm} {q : List Nat}, Stk P o fs → begF (some o) us = some q → ∃ gs, Stk (P ++ us) q gs := by
 induction us with
 | nil => intro P o fs q h hb; injection hb with hb; subst hb; exact ⟨fs, by rw [List.append_nil]; exact h⟩
 | cons x r ih =>
  intro P o fs q h hb
  obtain ⟨s, h1, h2⟩ := begF_cons hb
  obtain ⟨gs, h3⟩ := h.step h1
  obtain ⟨hs, h4⟩ := ih h3 h2
  exact ⟨hs, by rw [List.append_assoc] at h4; exact h4⟩
end Go.Proofs.YtheaepceghnkpaaGreatDoor

/- What the reader of package parse does with its state, as functions: tokens left, fault, nodes, how many were made, how deep. No condition. -/
namespace Go.Proofs.YtheaepceghnkpaaGreatDoor
open Go.RowKit Limb
set_option linter.unusedVariables false
structure St where
 l : List Tk
 E : Int
 P : Int
 ts : List Nd
 mad : Nat
 op : Nat
def pkL (l : List Tk) : Tk := l.headD (0, [], 0)
abbrev pkS (st : St) : Tk := pkL st.l
def failS (e p : Int) (st : St) : St := if st.E = 0 then { st with l := [], E := e, P := p } else st
def refS (en : Nat) (st : St) : St := failS 12 (hereT en st.l) st
def rdS (st : St) : St := { st with l := st.l.tail }
def needS (en : Nat) (b : Bool) (st : St) : St := if b = true then st else refS en st
def sgnS (en : Nat) (tx : List Nat) (st : St) : St := rdS (needS en (nextT 3 tx st.l) st)
def takP (en kd : Nat) (st : St) : St := needS en (decide ((pkS st).1 = kd)) st
def takS (en kd : Nat) (st : St) : St := rdS (takP en kd st)
def takX (en kd : Nat) (st : St) : List Nat := (pkS (takP en kd st)).2.1
def namP (en : Nat) (st : St) : St := needS en (isNam (pkS st).2.1) st
def namS (en : Nat) (st : St) : St := takS en 1 (namP en st)
def namX (en : Nat) (st : St) : List Nat := takX en 1 (namP en st)
def untS (en : Nat) (st : St) : St := if (pkS st).1 = 4 then takS en 4 st else st
def untX (en : Nat) (st : St) : List Nat := if (pkS st).1 = 4 then takX en 4 st else []
def smlV (k : Nat) (st : St) : Option Nat := if (pkS st).1 = 2 then smallT (pkS st).2.1 k else none
def smlP (en k most : Nat) (st : St) : St := match smlV k st with
 | none => refS en st
 | some v => if most < v then failS 2 (pkS st).2.2 st else st
def smlS (en k most : Nat) (st : St) : St := rdS (smlP en k most st)
def lastS (st : St) : Int := (st.ts.length : Int) - 1
def nodP (L : Lim) (p : Int) (st : St) : St := if st.mad = L.nodes then failS 2 p st else st
def addS (x : Nd) (st : St) : St := { st with mad := st.mad + 1, ts := st.ts ++ [x] }
def nodS (L : Lim) (x : Nd) (st : St) : St := addS x (nodP L x.p st)
def opnP (L : Lim) (st : St) : St := if st.op = L.deep then failS 2 (pkS st).2.2 st else st
def incS (st : St) : St := { st with op := st.op + 1 }
def opnS (L : Lim) (st : St) : St := rdS (incS (opnP L st))
def opnX (L : Lim) (st : St) : Tk := pkS (opnP L st)
def shtS (st : St) : St := { st with op := st.op - 1 }
def joiN (tx : List Nat) : Int := if tx = [43] then 3 else if tx = [45] then 4 else if tx = [42] then 5 else 6
def powM (L : Lim) (en : Nat) (sg : Bool) (a : Int) (p : Int) (st : St) : St :=
 nodS L ⟨8, a, 0, (if sg = true then -((smlV 3 st).getD 0 : Int) else ((smlV 3 st).getD 0 : Int)), ⟨#[]⟩, ⟨#[]⟩, p⟩ (smlS en 3 L.power st)
def powS (L : Lim) (en : Nat) (st : St) : St :=
 if nextT 3 [45] (rdS st).l = true then powM L en true (lastS st) (pkS st).2.2 (rdS (rdS st)) else powM L en false (lastS st) (pkS st).2.2 (rdS st)
def atmS (L : Lim) (en : Nat) (f : St → St) (st : St) : St :=
 if (pkS st).1 = 2 then nodS L ⟨1, 0, 0, 0, strOf (pkS st).2.1, strOf (untX en (rdS st)), (pkS st).2.2⟩ (untS en (rdS st))
 else if nextT 3 [40] st.l = true then shtS (sgnS en [41] (f (opnS L st)))
 else nodS L ⟨2, 0, 0, 0, strOf (namX en st), ⟨#[]⟩, (pkS st).2.2⟩ (namS en st)
def joiK (L : Lim) (f : St → St) (st : St) : St :=
 nodS L ⟨joiN (pkS st).2.1, lastS st, lastS (f (rdS st)), 0, ⟨#[]⟩, ⟨#[]⟩, (pkS st).2.2⟩ (f (rdS st))
def addB (l : List Tk) : Bool := nextT 3 [43] l || nextT 3 [45] l
def mulB (l : List Tk) : Bool := nextT 3 [42] l || nextT 3 [47] l
def lopK (L : Lim) (f : St → St) (ob : List Tk → Bool) : Nat → St → St
 | 0, st => st
 | g + 1, st => if ob st.l = true then lopK L f ob g (joiK L f st) else st
def rowK (L : Lim) (f : St → St) (ob : List Tk → Bool) (st : St) : St := lopK L f ob (f st).l.length (f st)
def trmK (L : Lim) (f : St → St) : St → St := rowK L f mulB
def frmK (L : Lim) (f : St → St) : St → St := rowK L (trmK L f) addB
def facS' (L : Lim) (en : Nat) (f : St → St) (st : St) : St :=
 if nextT 3 [45] st.l = true then nodS L ⟨7, lastS (f (opnS L st)), 0, 0, ⟨#[]⟩, ⟨#[]⟩, (opnX L st).2.2⟩ (shtS (f (opnS L st)))
 else if nextT 3 [94] (atmS L en (frmK L f) st).l = true then powS L en (atmS L en (frmK L f) st) else atmS L en (frmK L f) st
def facK (L : Lim) (en : Nat) : Nat → St → St
 | 0, st => st
 | k + 1, st => facS' L en (facK L en k) st
/-! ### what is made, what is left -/
def mu (l : List Tk) : Nat := l.length + (if l = [] then 0 else 1)
theorem mu_nil : mu [] = 0 := rfl
theorem mu_cons (t : Tk) (l : List Tk) : mu (t :: l) = l.length + 2 := by simp [mu]
theorem mu_le {a b : List Tk} (h : a.length ≤ b.length) : mu a ≤ mu b := by
 cases a with
 | nil => rw [mu_nil]; omega
 | cons t r =>
  cases b with
  | nil => simp at h
  | cons u s => simp [mu_cons] at h ⊢; omega
theorem mu_tail {l : List Tk} (h : l ≠ []) : mu l.tail + 1 ≤ mu l := by
 cases l with
 | nil => exact absurd rfl h
 | cons t r =>
  rw [mu_cons, List.tail_cons]
  cases r with
  | nil => simp [mu]
  | cons u s => simp [mu_cons]
structure Cn (c : Nat) (st s : St) : Prop where
 len : s.l.length ≤ st.l.length
 cnt : s.ts.length + mu s.l ≤ st.ts.length + mu st.l + c
 mad : s.mad + st.ts.length = st.mad + s.ts.length
 op : s.op = st.op
theorem Cn.refl (st : St) : Cn 0 st st := ⟨Nat.le_refl _, by omega, by omega, rfl⟩
theorem Cn.trans {c d : Nat} {a b e : St} (h : Cn c a b) (k : Cn d b e) : Cn (c + d) a e := ⟨by have := h.len; have := k.len; omega, by have := h.cnt; have := k.cnt; omega, by have := h.mad; have := k.mad; omega, k.op.trans h.op⟩
theorem Cn.mono {c d : Nat} {a b : St} (h : Cn c a b) (k : c ≤ d) : Cn d a b := ⟨h.len, by have := h.cnt; omega, h.mad, h.op⟩
theorem fail_cn (e p : Int) (st : St) : Cn 0 st (failS e p st) := by
 unfold failS
 split
 · exact ⟨by simp, by simp [mu_nil], rfl, rfl⟩
 · exact Cn.refl _
theorem need_cn (en : Nat) (b : Bool) (st : St) : Cn 0 st (needS en b st) := by
 unfold needS
 split
 · exact Cn.refl _
 · exact fail_cn _ _ _
theorem rd_cn (st : St) : Cn 0 st (rdS st) := ⟨by simp [rdS], by have := mu_le (a := st.l.tail) (b := st.l) (by simp); show st.ts.length + mu st.l.tail ≤ _; omega, rfl, rfl⟩
theorem sgn_cn (en : Nat) (tx : List Nat) (st : St) : Cn 0 st (sgnS en tx st) := (need_cn _ _ _).trans (rd_cn _)
theorem tak_cn (en kd : Nat) (st : St) : Cn 0 st (takS en kd st) := (need_cn _ _ _).trans (rd_cn _)
theorem nam_cn (en : Nat) (st : St) : Cn 0 st (namS en st) := (need_cn _ _ _).trans (tak_cn _ _ _)
theorem unt_cn (en : Nat) (st : St) : Cn 0 st (untS en st) := by
 unfold untS
 split
 · exact tak_cn _ _ _
 · exact Cn.refl _
theorem smlP_cn (en k most : Nat) (st : St) : Cn 0 st (smlP en k most st) := by
 unfold smlP
 split
 · exact fail_cn _ _ _
 · split
   · exact fail_cn _ _ _
   · exact Cn.refl _
theorem sml_cn (en k most : Nat) (st : St) : Cn 0 st (smlS en k most st) := (smlP_cn _ _ _ _).trans (rd_cn _)
theorem nodP_cn (L : Lim) (p : Int) (st : St) : Cn 0 st (nodP L p st) := by
 unfold nodP
 split
 · exact fail_cn _ _ _
 · exact Cn.refl _
theorem nod_cn (L : Lim) (x : Nd) (st : St) : Cn 1 st (nodS L x st) := by
 have h := nodP_cn L x.p st
 have h1 := h.len
 have h2 := h.cnt
 have h3 := h.mad
 refine ⟨h1, ?_, ?_, h.op⟩
 · show ((nodP L x.p st).ts ++ [x]).length + mu (nodP L x.p st).l ≤ _
   rw [List.length_append, List.length_singleton]; omega
 · show (nodP L x.p st).mad + 1 + _ = _ + ((nodP L x.p st).ts ++ [x]).length
   rw [List.length_append, List.length_singleton]; omega
structure Cr (st s : St) : Prop where
 len : s.l.length + 1 ≤ st.l.length
 cnt : s.ts.length + mu s.l + 1 ≤ st.ts.length + mu st.l
 fin : s.l = [] → s.ts.length + 2 ≤ st.ts.length + mu st.l
 mad : s.mad + st.ts.length = st.mad + s.ts.length
 op : s.op = st.op
theorem next_ne {kd : Nat} {tx : List Nat} {l : List Tk} (h : nextT kd tx l = true) : l ≠ [] := by rintro rfl; cases h
theorem mu_two {l : List Tk} (h : l ≠ []) : 2 ≤ mu l := by have := List.length_pos_iff.2 h; unfold mu; rw [if_neg h]; omega
theorem rd_cr {st : St} (h : st.l ≠ []) : Cr st (rdS st) := by
 have := List.length_pos_iff.2 h
 exact ⟨by simp [rdS]; omega, by have := mu_tail h; show st.ts.length + mu st.l.tail + 1 ≤ _; omega, fun _ => by have := mu_two h; show st.ts.length + 2 ≤ _; omega, rfl, rfl⟩
theorem Cr.to {a b : St} (h : Cr a b) : Cn 0 a b := ⟨by have := h.len; omega, by have := h.cnt; omega, h.mad, h.op⟩
structure Co (st s : St) : Prop where
 len : s.l.length + 1 ≤ st.l.length
 cnt : s.ts.length + mu s.l + 1 ≤ st.ts.length + mu st.l
 fin : s.l = [] → s.ts.length + 2 ≤ st.ts.length + mu st.l
 mad : s.mad + st.ts.length = st.mad + s.ts.length
theorem Cr.co {a b : St} (h : Cr a b) : Co a b := ⟨h.len, h.cnt, h.fin, h.mad⟩
theorem opn_co (L : Lim) {st : St} (h : st.l ≠ []) : Co st (opnS L st) ∧ (opnS L st).op = st.op + 1 := by
 unfold opnS opnP failS
 have h2 := mu_two h
 have h3 := List.length_pos_iff.2 h
 have h4 := rd_cr h
 split
 · split
   · exact ⟨⟨by simp [rdS, incS]; omega, by simp [rdS, incS, mu_nil]; omega, fun _ => by simp [rdS, incS]; omega, rfl⟩, rfl⟩
   · exact ⟨⟨h4.len, h4.cnt, h4.fin, h4.mad⟩, rfl⟩
 · exact ⟨⟨h4.len, h4.cnt, h4.fin, h4.mad⟩, rfl⟩
def Good1 (f : St → St) : Prop := ∀ st, Cn (if st.l = [] then 1 else 0) st (f st)
theorem co_step {f : St → St} (hf : Good1 f) {st s : St} (h : Co st s) : (f s).l.length + 1 ≤ st.l.length ∧ (f s).ts.length + mu (f s).l + 1 ≤ st.ts.length + mu st.l ∧ (f s).mad + st.ts.length = st.mad + (f s).ts.length ∧ (f s).op = s.op := by
 have k := hf s
 have h1 := h.len
 have h2 := h.cnt
 have h3 := h.mad
 have h5 := h.fin
 have k1 := k.len
 have k2 := k.cnt
 have k3 := k.mad
 refine ⟨by omega, ?_, by omega, k.op⟩
 by_cases e : s.l = []
 · rw [if_pos e] at k2
   have := h5 e
   rw [e, mu_nil] at k2
   omega
 · rw [if_neg e] at k2; omega
theorem node_step {f : St → St} (hf : Good1 f) (L : Lim) (x : Nd) {st s s' : St} (h : Co st s) (h1 : s'.l = (f s).l) (h2 : s'.ts = (f s).ts) (h3 : s'.mad = (f s).mad) (h4 : s'.op = st.op) : Cn 0 st (nodS L x s') ∧ (nodS L x s').l.length < st.l.length := by
 have k := co_step hf h
 have n := nod_cn L x s'
 have n1 := n.len
 have n2 := n.cnt
 have n3 := n.mad
 rw [h1] at n1 n2
 rw [h2] at n2 n3
 rw [h3] at n3
 exact ⟨⟨by omega, by omega, by omega, n.op.trans h4⟩, by omega⟩
theorem joi_cn {f : St → St} (hf : Good1 f) (L : Lim) {st : St} (h : st.l ≠ []) : Cn 0 st (joiK L f st) ∧ (joiK L f st).l.length < st.l.length :=
 node_step hf L _ (rd_cr h).co rfl rfl rfl (hf (rdS st)).op
theorem ob_ne {ob : List Tk → Bool} (ho : ob = addB ∨ ob = mulB) {l : List Tk} (h : ob l = true) : l ≠ [] := by
 rintro rfl
 rcases ho with rfl | rfl <;> cases h
theorem lop_cn {f : St → St} (hf : Good1 f) (L : Lim) {ob : List Tk → Bool} (ho : ob = addB ∨ ob = mulB) : ∀ (g : Nat) (st : St), Cn 0 st (lopK L f ob g st)
 | 0, st => Cn.refl st
 | g + 1, st => by
  unfold lopK
  split
  · rename_i h
    exact (joi_cn hf L (ob_ne ho h)).1.trans (lop_cn hf L ho g _)
  · exact Cn.refl st
theorem row_good {f : St → St} (hf : Good1 f) (L : Lim) {ob : List Tk → Bool} (ho : ob = addB ∨ ob = mulB) : Good1 (rowK L f ob) := fun st => by
 have := (hf st).trans (lop_cn hf L ho (f st).l.length (f st))
 exact this.mono (by omega)
theorem trm_good {f : St → St} (hf : Good1 f) (L : Lim) : Good1 (trmK L f) := row_good hf L (.inr rfl)
theorem frm_good {f : St → St} (hf : Good1 f) (L : Lim) : Good1 (frmK L f) := row_good (trm_good hf L) L (.inl rfl)
theorem lop_len {f : St → St} (hf : Good1 f) (L : Lim) {ob : List Tk → Bool} (ho : ob = addB ∨ ob = mulB) : ∀ (g : Nat) (st : St), st.l.length ≤ g → lopK L f ob g st = lopK L f ob st.l.length st
 | 0, st, h => by rw [Nat.le_zero.1 h]
 | g + 1, st, h => by
  cases e : st.l.length with
  | zero =>
   have hn : st.l = [] := List.length_eq_zero_iff.1 e
   unfold lopK
   rw [if_neg (fun hh => ob_ne ho hh hn)]
  | succ m =>
   show (if ob st.l = true then lopK L f ob g (joiK L f st) else st) = (if ob st.l = true then lopK L f ob m (joiK L f st) else st)
   split
   · rename_i hh
     have := (joi_cn hf L (ob_ne ho hh)).2
     rw [lop_len hf L ho g _ (by omega), lop_len hf L ho m _ (by omega)]
   · rfl
theorem lop_step {f : St → St} (hf : Good1 f) (L : Lim) {ob : List Tk → Bool} (ho : ob = addB ∨ ob = mulB) {st : St} (h : ob st.l = true) : lopK L f ob st.l.length st = lopK L f ob (joiK L f st).l.length (joiK L f st) := by
 have h1 := List.length_pos_iff.2 (ob_ne ho h)
 have h2 := (joi_cn hf L (ob_ne ho h)).2
 cases e : st.l.length with
 | zero => omega
 | succ m =>
  show (if ob st.l = true then lopK L f ob m (joiK L f st) else st) = _
  rw [if_pos h, lop_len hf L ho m _ (by omega)]
theorem lop_stop (L : Lim) (f : St → St) {ob : List Tk → Bool} {st : St} (h : ob st.l = false) (g : Nat) : lopK L f ob g st = st := by
 cases g with
 | zero => rfl
 | succ g => unfold lopK; rw [h]; rfl
theorem pk_ne {st : St} {k : Nat} (hk : k ≠ 0) (h : (pkS st).1 = k) : st.l ≠ [] := by
 intro e
 rw [pkS, e] at h
 exact hk h.symm
theorem pow_cn (L : Lim) (en : Nat) {st : St} (h : st.l ≠ []) : Cn 0 st (powS L en st) := by
 have h0 := rd_cr h
 have key : ∀ (sg : Bool) (s : St), Cn 0 (rdS st) s → Cn 0 st (powM L en sg (lastS st) (pkS st).2.2 s) := fun sg s hs => by
  unfold powM
  have a := h0.len
  have b := h0.cnt
  have c := h0.mad
  generalize (⟨8, lastS st, 0, (if sg = true then -((smlV 3 s).getD 0 : Int) else ((smlV 3 s).getD 0 : Int)), ⟨#[]⟩, ⟨#[]⟩, (pkS st).2.2⟩ : Nd) = x
  have k := (hs.trans (sml_cn en 3 L.power s)).trans (nod_cn L x (smlS en 3 L.power s))
  have k1 := k.len
  have k2 := k.cnt
  have k3 := k.mad
  exact ⟨Nat.le_trans k1 (by omega), Nat.le_trans k2 (by omega), by omega, k.op.trans h0.op⟩
 unfold powS
 split
 · exact key true _ (rd_cn _)
 · exact key false _ (Cn.refl _)
theorem atm_good (L : Lim) (en : Nat) {f : St → St} (hf : Good1 f) : Good1 (atmS L en f) := fun st => by
 unfold atmS
 by_cases h : (pkS st).1 = 2
 · rw [if_pos h]
   have h0 := rd_cr (pk_ne (by decide) h)
   have a := h0.len
   have b := h0.cnt
   have c := h0.mad
   have k := (unt_cn en (rdS st)).trans (nod_cn L ⟨1, 0, 0, 0, strOf (pkS st).2.1, strOf (untX en (rdS st)), (pkS st).2.2⟩ (untS en (rdS st)))
   have k1 := k.len
   have k2 := k.cnt
   have k3 := k.mad
   exact ⟨Nat.le_trans k1 (by omega), Nat.le_trans k2 (by omega), by omega, k.op.trans h0.op⟩
 · rw [if_neg h]
   by_cases h : nextT 3 [40] st.l = true
   · rw [if_pos h]
     have ho := opn_co L (next_ne h)
     have k := co_step hf ho.1
     have s := sgn_cn en [41] (f (opnS L st))
     have s1 := s.len
     have s2 := s.cnt
     have s3 := s.mad
     have s4 := s.op
     refine ⟨?_, ?_, ?_, ?_⟩
     · show (sgnS en [41] (f (opnS L st))).l.length ≤ _; omega
     · show (sgnS en [41] (f (opnS L st))).ts.length + mu (sgnS en [41] (f (opnS L st))).l ≤ _; omega
     · show (sgnS en [41] (f (opnS L st))).mad + _ = st.mad + (sgnS en [41] (f (opnS L st))).ts.length; omega
     · show (sgnS en [41] (f (opnS L st))).op - 1 = st.op; have := k.2.2.2; have := ho.2; omega
   · rw [if_neg h]
     by_cases e : st.l = []
     · rw [if_pos e]
       exact (nam_cn en st).trans (nod_cn L _ _)
     · rw [if_neg e]
       have n : Cn 0 st (namS en st) := nam_cn en st
       have hx : (namS en st).ts = st.ts ∧ mu (namS en st).l + 1 ≤ mu st.l := by
        have hfail : ∀ s : St, s.ts = st.ts → s.l.length ≤ st.l.length → (rdS s).ts = st.ts ∧ mu (rdS s).l + 1 ≤ mu st.l := fun s h1 h2 => by
         refine ⟨h1, ?_⟩
         by_cases e2 : s.l = []
         · show mu s.l.tail + 1 ≤ _
           rw [e2]; have := mu_two e; show mu [] + 1 ≤ _; rw [mu_nil]; omega
         · have := mu_tail e2
           have := mu_le h2
           show mu s.l.tail + 1 ≤ _; omega
        have hneed : ∀ (b : Bool) (s : St), s.ts = st.ts → (needS en b s).ts = st.ts := fun b s hs => by
         unfold needS refS failS
         split
         · exact hs
         · split
           · exact hs
           · exact hs
        exact hfail _ (hneed _ _ (hneed _ _ rfl)) (Nat.le_trans (need_cn _ _ _).len (need_cn _ _ _).len)
       have k := nod_cn L ⟨2, 0, 0, 0, strOf (namX en st), ⟨#[]⟩, (pkS st).2.2⟩ (namS en st)
       have k1 := k.len
       have k2 := k.cnt
       have k3 := k.mad
       have n1 := n.len
       have n3 := n.mad
       refine ⟨Nat.le_trans k1 n1, Nat.le_trans k2 ?_, by omega, k.op.trans n.op⟩
       rw [hx.1]; omega
theorem fac_step (L : Lim) (en : Nat) {f : St → St} (hf : Good1 f) : Good1 (facS' L en f) := fun st => by
 unfold facS'
 by_cases h : nextT 3 [45] st.l = true
 · rw [if_pos h]
   have hn := next_ne h
   have ho := opn_co L hn
   rw [if_neg hn]
   refine (node_step hf L _ (s' := shtS (f (opnS L st))) ho.1 rfl rfl rfl ?_).1
   show (f (opnS L st)).op - 1 = st.op
   have := (hf (opnS L st)).op
   have := ho.2
   omega
 · have a := atm_good L en (frm_good hf L) st
   rw [if_neg h]
   by_cases h2 : nextT 3 [94] (atmS L en (frmK L f) st).l = true
   · rw [if_pos h2]
     exact a.trans (pow_cn L en (next_ne h2))
   · rw [if_neg h2]; exact a
theorem fac_good (L : Lim) (en : Nat) : ∀ k, Good1 (facK L en k)
 | 0 => fun st => (Cn.refl st).mono (by omega)
 | k + 1 => fac_step L en (fac_good L en k)
end Go.Proofs.YtheaepceghnkpaaGreatDoor

/- What the reader of package parse does, and the grammar: formulas are read as it says, with the same fault. No condition. -/
namespace Go.Proofs.YtheaepceghnkpaaGreatDoor
open Go.RowKit Limb
set_option linter.unusedVariables false
structure Dead (e p : Int) (op : Nat) (st : St) : Prop where
 E : st.E = e
 P : st.P = p
 l : st.l = []
 op : st.op = op
 ne : e ≠ 0
section
variable {L : Lim} {en : Nat} {e p : Int} {op : Nat} {st : St}
theorem Dead.fail (h : Dead e p op st) (e' p' : Int) : failS e' p' st = st := by unfold failS; rw [if_neg (by rw [h.E]; exact h.ne)]
theorem Dead.rd (h : Dead e p op st) : rdS st = st := by
 cases st
 have := h.l
 dsimp only at this
 subst this; rfl
theorem Dead.need (h : Dead e p op st) (b : Bool) : needS en b st = st := by
 unfold needS
 split
 · rfl
 · exact h.fail _ _
theorem Dead.sgn (h : Dead e p op st) (tx : List Nat) : sgnS en tx st = st := by unfold sgnS; rw [h.need, h.rd]
theorem Dead.tak (h : Dead e p op st) (kd : Nat) : takS en kd st = st := by unfold takS takP; rw [h.need, h.rd]
theorem Dead.nam (h : Dead e p op st) : namS en st = st := by unfold namS namP; rw [h.need, h.tak]
theorem Dead.unt (h : Dead e p op st) : untS en st = st := by
 unfold untS
 split
 · exact h.tak 4
 · rfl
theorem Dead.sml (h : Dead e p op st) (k most : Nat) : smlS en k most st = st := by
 unfold smlS smlP
 split
 · rw [refS, h.fail, h.rd]
 · split
   · rw [h.fail, h.rd]
   · exact h.rd
theorem Dead.next (h : Dead e p op st) (kd : Nat) (tx : List Nat) : nextT kd tx st.l = false := by rw [h.l]; rfl
theorem Dead.nod (h : Dead e p op st) (x : Nd) : Dead e p op (nodS L x st) := by
 unfold nodS nodP
 split
 · rw [h.fail]; exact ⟨h.E, h.P, h.l, h.op, h.ne⟩
 · exact ⟨h.E, h.P, h.l, h.op, h.ne⟩
theorem Dead.ob (h : Dead e p op st) {ob : List Tk → Bool} (ho : ob = addB ∨ ob = mulB) : ob st.l = false := by rw [h.l]; rcases ho with rfl | rfl <;> rfl
theorem Dead.row (h : Dead e p op st) {f : St → St} (hf : Dead e p op (f st)) {ob : List Tk → Bool} (ho : ob = addB ∨ ob = mulB) : Dead e p op (rowK L f ob st) := by
 unfold rowK
 rw [lop_stop L f (hf.ob ho)]; exact hf
theorem Dead.atm (h : Dead e p op st) (f : St → St) : Dead e p op (atmS L en f st) := by
 unfold atmS
 rw [if_neg (by rw [pkS, h.l]; decide), h.next, if_neg (by decide), h.nam]
 exact h.nod _
theorem Dead.fac (h : Dead e p op st) (f : St → St) : Dead e p op (facS' L en f st) := by
 unfold facS'
 rw [h.next, if_neg (by decide), (h.atm (L := L) (en := en) (frmK L f)).next, if_neg (by decide)]
 exact h.atm _
theorem Dead.frm (h : Dead e p op st) (k : Nat) : Dead e p op (frmK L (facK L en (k + 1)) st) := (h.row (h.row (h.fac _) (.inr rfl)) (.inl rfl))
end
/-! ### token by token -/
section
variable {L : Lim} {en : Nat} {st : St}
theorem fail_dead (hE : st.E = 0) {e p : Int} (he : e ≠ 0) : Dead e p st.op (failS e p st) := by unfold failS; rw [if_pos hE]; exact ⟨rfl, rfl, rfl, rfl, he⟩
theorem take_eq (kd n : Nat) (tx : List Nat) : takeT en kd tx st.l n = if nextT kd tx st.l = true then .ok (pkS st) st.l.tail n else .bad 12 (hereT en st.l) := by
 cases e : st.l with
 | nil => rfl
 | cons t r => rw [pkS, e]; rfl
theorem name_eq (n : Nat) : nameT en st.l n = if (decide ((pkS st).1 = 1) && isNam (pkS st).2.1) = true then .ok (pkS st) st.l.tail n else .bad 12 (hereT en st.l) := by
 cases e : st.l with
 | nil => rw [show pkS st = (0, [], 0) by rw [pkS, e]; rfl]; rfl
 | cons t r =>
  rw [pkS, e]
  show (if t.1 = 1 ∧ isNam t.2.1 = true then _ else _) = (if (decide (t.1 = 1) && isNam t.2.1) = true then _ else _)
  by_cases h : t.1 = 1 ∧ isNam t.2.1 = true
  · rw [if_pos h, if_pos (by simp [h.1, h.2])]; rfl
  · rw [if_neg h, if_neg (by simpa using h)]; rfl
theorem next_kind {kd : Nat} (hk : kd ≠ 0) (l : List Tk) : nextT kd [] l = decide ((pkL l).1 = kd) := by
 cases l with
 | nil => exact (decide_eq_false (by show ¬ 0 = kd; omega)).symm
 | cons t r => show (decide (t.1 = kd) && true) = _; rw [Bool.and_true]; rfl
def Kin (st : St) {α : Type} (r : PaR α) (x : α → Prop) (s : St) : Prop := match r with
 | .ok a l n => s = { st with l := l } ∧ n = st.mad ∧ x a
 | .bad e p => Dead e p st.op s
theorem tak_kin (hE : st.E = 0) {kd : Nat} (hk : kd ≠ 0) : Kin st (takeT en kd [] st.l st.mad) (fun t => takX en kd st = t.2.1 ∧ t ∈ st.l) (takS en kd st) := by
 rw [take_eq, next_kind hk]
 unfold takX takS takP needS
 by_cases h : (pkS st).1 = kd
 · rw [if_pos (decide_eq_true h), if_pos (decide_eq_true h)]
   refine ⟨rfl, rfl, rfl, ?_⟩
   cases e : st.l with
   | nil => rw [pkS, e] at h; exact absurd h.symm hk
   | cons t r => rw [pkS, e]; exact List.mem_cons_self
 · rw [if_neg (by simpa using h), if_neg (by simpa using h)]
   have := (fail_dead (p := hereT en st.l) hE (show (12 : Int) ≠ 0 by decide))
   show Dead _ _ _ (rdS (refS en st))
   rw [refS, this.rd]; exact this
theorem sgn_kin (hE : st.E = 0) (tx : List Nat) : Kin st (takeT en 3 tx st.l st.mad) (fun _ => True) (sgnS en tx st) := by
 rw [take_eq]
 unfold sgnS needS
 by_cases h : nextT 3 tx st.l = true
 · rw [if_pos h, if_pos h]; exact ⟨rfl, rfl, trivial⟩
 · rw [if_neg h, if_neg h]
   have := (fail_dead (p := hereT en st.l) hE (show (12 : Int) ≠ 0 by decide))
   show Dead _ _ _ (rdS (refS en st))
   rw [refS, this.rd]; exact this
theorem nam_kin (hE : st.E = 0) : Kin st (nameT en st.l st.mad) (fun t => namX en st = t.2.1 ∧ t = pkS st) (namS en st) := by
 rw [name_eq]
 have hd := (fail_dead (p := hereT en st.l) hE (show (12 : Int) ≠ 0 by decide))
 unfold namS namX namP needS
 by_cases h : isNam (pkS st).2.1 = true
 · rw [if_pos h, h, Bool.and_true]
   unfold takS takX takP needS
   by_cases h1 : (pkS st).1 = 1
   · rw [if_pos (decide_eq_true h1), if_pos (decide_eq_true h1)]; exact ⟨rfl, rfl, rfl, rfl⟩
   · rw [if_neg (by simpa using h1), if_neg (by simpa using h1)]
     show Dead _ _ _ (rdS (refS en st))
     rw [refS, hd.rd]; exact hd
 · rw [if_neg (by simp [h]), if_neg h]
   show Dead _ _ _ (takS en 1 (refS en st))
   rw [refS, hd.tak]; exact hd
theorem unt_kin (hE : st.E = 0) : untS en st = { st with l := (unitT st.l).2 } ∧ untX en st = (unitT st.l).1 := by
 unfold untS untX
 cases e : st.l with
 | nil => rw [pkS, e]; exact ⟨by cases st; dsimp only at e; subst e; rfl, rfl⟩
 | cons t r =>
  have hp : pkS st = t := by rw [pkS, e]; rfl
  rw [hp]
  by_cases h : t.1 = 4
  · have k := tak_kin (en := en) (st := st) hE (kd := 4) (by decide)
    rw [take_eq, next_kind (by decide), show pkL st.l = t from hp, if_pos (decide_eq_true h)] at k
    rw [if_pos h, if_pos h]
    show _ = { st with l := (if isT 4 [] t = true then (t.2.1, r) else ([], t :: r)).2 } ∧ _ = (if isT 4 [] t = true then (t.2.1, r) else ([], t :: r)).1
    rw [if_pos (show isT 4 [] t = true by simp [isT, h])]
    obtain ⟨k1, _, k2, _⟩ := k
    rw [e] at k1
    exact ⟨k1, k2.trans (by rw [hp])⟩
  · rw [if_neg h, if_neg h]
    show _ = { st with l := (if isT 4 [] t = true then (t.2.1, r) else ([], t :: r)).2 } ∧ _ = (if isT 4 [] t = true then (t.2.1, r) else ([], t :: r)).1
    rw [if_neg (show ¬ isT 4 [] t = true by simp [isT, h])]
    exact ⟨by cases st; dsimp only at e; subst e; rfl, rfl⟩
theorem sml_kin (hE : st.E = 0) (k most : Nat) : Kin st ((takeT en 2 [] st.l st.mad).next fun x r n => match smallT x.2.1 k with | none => .bad 12 x.2.2 | some v => if most < v then .bad 2 x.2.2 else .ok v r n) (fun v => smlV k st = some v) (smlS en k most st) := by
 rw [take_eq, next_kind (by decide)]
 unfold smlS smlP
 cases hv : smlV k st with
 | none =>
  have hd := (fail_dead (p := hereT en st.l) hE (show (12 : Int) ≠ 0 by decide))
  show Kin st _ _ (rdS (refS en st))
  rw [refS, hd.rd]
  unfold smlV at hv
  by_cases h : (pkS st).1 = 2
  · rw [if_pos h] at hv
    rw [if_pos (decide_eq_true h), PaR.next_ok]
    show Kin st (match smallT (pkS st).2.1 k with | none => _ | some v => _) _ _
    rw [hv]
    show Dead _ _ _ _
    cases e : st.l with
    | nil => rw [pkS, e] at h; cases h
    | cons t r => rw [e] at hd; rw [pkS, e]; exact hd
  · rw [if_neg (by simpa using h), PaR.next_bad]; exact hd
 | some v =>
  unfold smlV at hv
  by_cases h : (pkS st).1 = 2
  · rw [if_pos h] at hv
    rw [if_pos (decide_eq_true h), PaR.next_ok]
    show Kin st (match smallT (pkS st).2.1 k with | none => _ | some v => _) _ (rdS (if most < v then failS 2 (pkS st).2.2 st else st))
    rw [hv]
    show Kin st (if most < v then _ else _) _ _
    by_cases h2 : most < v
    · rw [if_pos h2, if_pos h2]
      have hd := (fail_dead (p := (pkS st).2.2) hE (show (2 : Int) ≠ 0 by decide))
      rw [hd.rd]; exact hd
    · rw [if_neg h2, if_neg h2]; exact ⟨rfl, rfl, rfl⟩
  · rw [if_neg h] at hv; cases hv
end
/-! ### formulas -/
def Is (L : Lim) (r : PaR (List Nd)) (st s : St) : Prop := match r with
 | .ok t l n => s = { st with l := l, mad := n, ts := st.ts ++ t.map (shiftN st.ts.length) } ∧ n ≤ L.nodes
 | .bad e p => Dead e p st.op s
theorem shift_len (t : List Nd) (d : Nat) : (t.map (shiftN d)).length = t.length := List.length_map _
theorem over_shift {k : Int} (hk : oneK k = true) (j : Int) (t : List Nd) (p d : Nat) : (overN k j t p).map (shiftN d) = t.map (shiftN d) ++ [⟨k, ((d + t.length : Nat) : Int) - 1, 0, j, ⟨#[]⟩, ⟨#[]⟩, p⟩] := by
 unfold overN
 rw [List.map_append, List.map_cons, List.map_nil, shiftN_one (by exact hk), show (t.length : Int) - 1 + (d : Int) = ((d + t.length : Nat) : Int) - 1 by omega]
theorem join_shift {k : Int} (hk : twoK k = true) (t u : List Nd) (p d : Nat) : (joinN k t u p).map (shiftN d) = t.map (shiftN d) ++ u.map (shiftN (d + t.length)) ++ [⟨k, ((d + t.length : Nat) : Int) - 1, ((d + t.length + u.length : Nat) : Int) - 1, 0, ⟨#[]⟩, ⟨#[]⟩, p⟩] := by
 have hu : (u.map (shiftN t.length)).map (shiftN d) = u.map (shiftN (d + t.length)) := by
  rw [List.map_map]
  refine List.map_congr_left fun x _ => ?_
  show shiftN d (shiftN t.length x) = _
  rw [shift_shift, Nat.add_comm]
 unfold joinN
 rw [List.map_append, List.map_append, List.map_cons, List.map_nil, shiftN_two (by exact hk), hu, show (t.length : Int) - 1 + (d : Int) = ((d + t.length : Nat) : Int) - 1 by omega, show (t.length : Int) + (u.length : Int) - 1 + (d : Int) = ((d + t.length + u.length : Nat) : Int) - 1 by omega]
section
variable {L : Lim} {en : Nat} {st : St}
theorem nod_is (hE : st.E = 0) {s : St} {T t2 : List Nd} {l : List Tk} {n : Nat} {x : Nd} {p : Nat} (hs : s = { st with l := l, mad := n, ts := st.ts ++ T }) (hn : n ≤ L.nodes) (hx : x.p = (p : Int)) (h2 : t2.map (shiftN st.ts.length) = T ++ [x]) : Is L (madeT L t2 p l n) st (nodS L x s) := by
 have hsE : s.E = 0 := by rw [hs]; exact hE
 have hso : s.op = st.op := by rw [hs]
 have hsm : s.mad = n := by rw [hs]
 unfold nodS nodP madeT
 rw [hsm]
 by_cases h : n = L.nodes
 · rw [if_pos h, if_pos (by omega), hx]
   have hd : Dead 2 p s.op (failS 2 (p : Int) s) := fail_dead hsE (by decide)
   rw [hso] at hd
   exact ⟨hd.E, hd.P, hd.l, hd.op, hd.ne⟩
 · rw [if_neg h, if_neg (by omega)]
   refine ⟨?_, by omega⟩
   rw [h2, hs]
   unfold addS
   rw [List.append_assoc]
theorem Is.bad {r : PaR (List Nd)} {st s : St} {e p : Nat} (h : Is L r st s) (hr : r = .bad e p) : Dead e p st.op s := by rw [hr] at h; exact h
theorem Is.ok {r : PaR (List Nd)} {st s : St} {t : List Nd} {l : List Tk} {n : Nat} (h : Is L r st s) (hr : r = .ok t l n) : s = { st with l := l, mad := n, ts := st.ts ++ t.map (shiftN st.ts.length) } ∧ n ≤ L.nodes := by rw [hr] at h; exact h
theorem lit_shift (s u : List Nat) (p d : Nat) : (litN s u p).map (shiftN d) = [⟨1, 0, 0, 0, strOf s, strOf u, p⟩] := rfl
theorem ref_shift (s : List Nat) (p d : Nat) : (refN s p).map (shiftN d) = [⟨2, 0, 0, 0, strOf s, ⟨#[]⟩, p⟩] := rfl
theorem here_pk {l : List Tk} (h : l ≠ []) : hereT en l = (pkL l).2.2 := by
 cases l with
 | nil => exact absurd rfl h
 | cons t r => rfl
theorem powM_is (hE : st.E = 0) {s0 : St} {t : List Nd} {l : List Tk} {n : Nat} (hs0 : s0 = { st with l := l, mad := n, ts := st.ts ++ t.map (shiftN st.ts.length) }) (hn : n ≤ L.nodes) (sg : Bool) (pa : Nat) : Is L (powB L en t pa sg l n) st (powM L en sg (((st.ts.length + t.length : Nat) : Int) - 1) pa s0) := by
 have k := sml_kin (st := s0) (en := en) (by rw [hs0]; exact hE) 3 L.power
 subst hs0
 unfold powB powM
 dsimp only at k
 cases e : takeT en 2 [] l n with
 | bad a b =>
  rw [e, PaR.next_bad] at k
  rw [PaR.next_bad]
  exact Dead.nod (L := L) k _
 | ok x r m =>
  rw [e, PaR.next_ok] at k
  rw [PaR.next_ok]
  cases e2 : smallT x.2.1 3 with
  | none => simp only [e2] at k ⊢; exact Dead.nod (L := L) k _
  | some v =>
   simp only [e2] at k ⊢
   by_cases h : L.power < v
   · rw [if_pos h] at k ⊢; exact Dead.nod (L := L) k _
   · rw [if_neg h] at k ⊢
     obtain ⟨k1, k2, k3⟩ := k
     dsimp only at k2
     rw [k1, k3]
     subst k2
     dsimp only
     refine nod_is (st := st) hE rfl hn rfl ?_
     rw [over_shift (by decide)]
     cases sg <;> rfl
theorem powT_is (hE : st.E = 0) {s0 : St} {t : List Nd} {l : List Tk} {n : Nat} (hs0 : s0 = { st with l := l, mad := n, ts := st.ts ++ t.map (shiftN st.ts.length) }) (hn : n ≤ L.nodes) : Is L (powT L en t l n) st (if nextT 3 [94] s0.l = true then powS L en s0 else s0) := by
 subst hs0
 unfold powT
 dsimp only
 by_cases h : nextT 3 [94] l = true
 · rw [if_pos h, if_pos h]
   unfold powS
   have hl : lastS { st with l := l, mad := n, ts := st.ts ++ t.map (shiftN st.ts.length) } = ((st.ts.length + t.length : Nat) : Int) - 1 := by simp [lastS]
   rw [hl]
   rw [here_pk (next_ne h)]
   show Is L (if nextT 3 [45] l.tail = true then _ else _) st (if nextT 3 [45] l.tail = true then _ else _)
   by_cases h2 : nextT 3 [45] l.tail = true
   · rw [if_pos h2, if_pos h2]
     exact powM_is hE rfl hn true _
   · rw [if_neg h2, if_neg h2]
     exact powM_is hE rfl hn false _
 · rw [if_neg h, if_neg h]
   exact ⟨rfl, hn⟩
structure Opr (ob : List Tk → Bool) (op : Tk → Option Int) : Prop where
 w : ob = addB ∨ ob = mulB
 yes : ∀ x r k, op x = some k → ob (x :: r) = true ∧ joiN x.2.1 = k ∧ twoK k = true
 no : ∀ x r, op x = none → ob (x :: r) = false
theorem isT_tx {kd c : Nat} {t : Tk} (h : isT kd [c] t = true) : t.2.1 = [c] := by
 rcases (isT_kind h).2 with e | e
 · cases e
 · exact e
theorem opr_add : Opr addB addO := by
 refine ⟨.inl rfl, fun x r k h => ?_, fun x r h => ?_⟩
 · unfold addO at h
   show (isT 3 [43] x || isT 3 [45] x) = true ∧ _
   split at h
   · rename_i h1
     cases h; rw [h1, isT_tx h1]; exact ⟨rfl, rfl, rfl⟩
   · split at h
     · rename_i h1
       cases h; rw [h1, isT_tx h1, Bool.or_true]; exact ⟨rfl, rfl, rfl⟩
     · cases h
 · unfold addO at h
   show (isT 3 [43] x || isT 3 [45] x) = false
   split at h
   · cases h
   · split at h
     · cases h
     · rename_i h1 h2
       rw [Bool.or_eq_false_iff]
       exact ⟨by simpa using h1, by simpa using h2⟩
theorem opr_mul : Opr mulB mulO := by
 refine ⟨.inr rfl, fun x r k h => ?_, fun x r h => ?_⟩
 · unfold mulO at h
   show (isT 3 [42] x || isT 3 [47] x) = true ∧ _
   split at h
   · rename_i h1
     cases h; rw [h1, isT_tx h1]; exact ⟨rfl, rfl, rfl⟩
   · split at h
     · rename_i h1
       cases h; rw [h1, isT_tx h1, Bool.or_true]; exact ⟨rfl, rfl, rfl⟩
     · cases h
 · unfold mulO at h
   show (isT 3 [42] x || isT 3 [47] x) = false
   split at h
   · cases h
   · split at h
     · cases h
     · rename_i h1 h2
       rw [Bool.or_eq_false_iff]
       exact ⟨by simpa using h1, by simpa using h2⟩
def IsR (L : Lim) (o : Nat) (g : Rdr) (f : St → St) : Prop := ∀ s : St, s.E = 0 → s.mad ≤ L.nodes → s.op = o → Is L (g s.l s.mad) s (f s)
theorem lop_is {g : Rdr} {f : St → St} (hg : Good1 f) {ob : List Tk → Bool} {op : Tk → Option Int} (ho : Opr ob op) (hf : IsR L st.op g f) (hE : st.E = 0) : ∀ (m : Nat) (t : List Nd) (l : List Tk) (n : Nat) (s : St), s = { st with l := l, mad := n, ts := st.ts ++ t.map (shiftN st.ts.length) } → n ≤ L.nodes → l.length ≤ m → Is L (loopT L g op m t l n) st (lopK L f ob m s)
 | 0, t, l, n, s, hs, hn, hl => by
  obtain rfl := List.length_eq_zero_iff.1 (Nat.le_zero.1 hl)
  exact ⟨hs, hn⟩
 | m + 1, t, [], n, s, hs, hn, hl => by
  rw [lop_stop L f (by rw [hs]; rcases ho.w with h | h <;> rw [h] <;> rfl)]
  exact ⟨hs, hn⟩
 | m + 1, t, x :: r, n, s, hs, hn, hl => by
  have hsl : s.l = x :: r := by rw [hs]
  cases e : op x with
  | none =>
   rw [lop_stop L f (by rw [hsl]; exact ho.no x r e)]
   show Is L (match op x with | none => _ | some k => _) st s
   rw [e]
   exact ⟨hs, hn⟩
  | some k =>
   obtain ⟨h1, h2, h3⟩ := ho.yes x r k e
   show Is L (match op x with | none => _ | some k => _) st (if ob s.l = true then lopK L f ob m (joiK L f s) else s)
   rw [e, hsl, if_pos h1]
   show Is L ((g r n).next _) st _
   have hlt := (joi_cn hg L (st := s) (by rw [hsl]; simp)).2
   have key : Is L ((g r n).next fun u r2 n2 => madeT L (joinN k t u x.2.2) x.2.2 r2 n2) st (joiK L f s) := by
    have hI := hf (rdS s) (by rw [hs]; exact hE) (by rw [hs]; exact hn) (by rw [hs]; rfl)
    rw [show (rdS s).l = r by rw [rdS, hsl]; rfl, show (rdS s).mad = n by rw [hs]; rfl] at hI
    unfold joiK
    rw [show pkS s = x by rw [pkS, hsl]; rfl]
    cases e2 : g r n with
    | bad a b =>
     have hd := hI.bad e2
     rw [PaR.next_bad]
     rw [show (rdS s).op = st.op by rw [hs]; rfl] at hd
     exact hd.nod _
    | ok u r2 n2 =>
     obtain ⟨hk, hn2⟩ := hI.ok e2
     rw [PaR.next_ok]
     have hts : (rdS s).ts = st.ts ++ t.map (shiftN st.ts.length) := by rw [hs]; rfl
     have hfs : f (rdS s) = { st with l := r2, mad := n2, ts := st.ts ++ (t.map (shiftN st.ts.length) ++ u.map (shiftN (st.ts.length + t.length))) } := by
      rw [hk, hts, List.length_append, shift_len, List.append_assoc, hs]; rfl
     refine nod_is hE hfs hn2 rfl ?_
     rw [join_shift h3, h2]
     congr 2
     refine Nd.ext' rfl ?_ ?_ rfl rfl rfl rfl
     · show _ = lastS s
       unfold lastS; rw [hs]; simp
     · show _ = lastS (f (rdS s))
       unfold lastS; rw [hfs]; simp; omega
   cases e2 : g r n with
   | bad a b =>
    rw [e2, PaR.next_bad] at key
    have hd : Dead _ _ _ _ := key
    rw [PaR.next_bad, lop_stop L f (hd.ob ho.w)]
    exact key
   | ok u r2 n2 =>
    rw [e2, PaR.next_ok] at key
    rw [PaR.next_ok]
    cases e3 : madeT L (joinN k t u x.2.2) x.2.2 r2 n2 with
    | bad a b =>
     rw [e3] at key
     have hd : Dead _ _ _ _ := key
     rw [PaR.next_bad, lop_stop L f (hd.ob ho.w)]
     exact key
    | ok t2 r3 n3 =>
     obtain ⟨k1, k2⟩ := key.ok e3
     rw [PaR.next_ok]
     refine lop_is hg ho hf hE m t2 r3 n3 _ k1 k2 ?_
     rw [k1] at hlt
     have h5 : r3.length < s.l.length := hlt
     rw [hsl] at h5
     simp at h5 hl
     omega
theorem row_is {g : Rdr} {f : St → St} (hg : Good1 f) {ob : List Tk → Bool} {op : Tk → Option Int} (ho : Opr ob op) {o : Nat} (hf : IsR L o g f) : IsR L o (rowT L g op) (rowK L f ob) := fun st hE hn hop => by
 subst hop
 have hI := hf st hE hn rfl
 unfold rowT rowK
 cases e : g st.l st.mad with
 | bad a b =>
  have hd := hI.bad e
  rw [PaR.next_bad, lop_stop L f (hd.ob ho.w)]
  exact hd
 | ok t l n =>
  obtain ⟨k1, k2⟩ := hI.ok e
  rw [PaR.next_ok, show (f st).l.length = l.length by rw [k1]]
  exact lop_is hg ho hf hE _ t l n _ k1 k2 (Nat.le_refl _)
theorem frm_is {g : Rdr} {f : St → St} (hg : Good1 f) {o : Nat} (hf : IsR L o g f) : IsR L o (formT L g) (frmK L f) := row_is (trm_good hg L) opr_add (row_is hg opr_mul hf)
def SubR (L : Lim) (o : Nat) (f : St → St) : Option Rdr → Prop
 | none => o = L.deep ∧ ∀ (e p : Int) (op : Nat) (s : St), Dead e p op s → Dead e p op (f s)
 | some g => o < L.deep ∧ IsR L (o + 1) g f
theorem opn_dead (hE : st.E = 0) (h : st.op = L.deep) (hn : st.l ≠ []) : Dead 2 (hereT en st.l) (st.op + 1) (opnS L st) := by
 have hd := fail_dead (p := (pkS st).2.2) hE (show (2 : Int) ≠ 0 by decide)
 unfold opnS opnP
 rw [if_pos h, here_pk hn]
 exact ⟨hd.E, hd.P, by show (failS 2 (pkS st).2.2 st).l.tail = []; rw [hd.l]; rfl, by show (failS 2 (pkS st).2.2 st).op + 1 = _; rw [hd.op], by decide⟩
theorem opn_live (h : st.op < L.deep) : opnS L st = { st with l := st.l.tail, op := st.op + 1 } := by
 unfold opnS opnP
 rw [if_neg (by omega)]; rfl
theorem opnX_live (h : st.op < L.deep) : opnX L st = pkS st := by
 unfold opnX opnP
 rw [if_neg (by omega)]
theorem Dead.sht {e p : Int} {op : Nat} {s : St} (h : Dead e p (op + 1) s) : Dead e p op (shtS s) := ⟨h.E, h.P, h.l, by show s.op - 1 = op; rw [h.op]; omega, h.ne⟩
theorem Dead.pow' {e p : Int} {op : Nat} {s : St} (h : Dead e p op s) : Dead e p op (if nextT 3 [94] s.l = true then powS L en s else s) := by rw [h.next, if_neg (by decide)]; exact h
theorem facS_is {f : St → St} {sub : Option Rdr} (hg : Good1 f) (hs : SubR L st.op f sub) (hE : st.E = 0) (hn : st.mad ≤ L.nodes) : Is L (facS L en sub st.l st.mad) st (facS' L en f st) := by
 unfold facS facS'
 by_cases h1 : nextT 3 [45] st.l = true
 · rw [if_pos h1, if_pos h1]
   have hne := next_ne h1
   cases sub with
   | none =>
    have hd := opn_dead (en := en) hE hs.1 hne
    exact ((hs.2 _ _ _ _ hd).sht).nod _
   | some g =>
    have hI := hs.2 (opnS L st) (by rw [opn_live hs.1]; exact hE) (by rw [opn_live hs.1]; exact hn) (by rw [opn_live hs.1])
    have hl : (opnS L st).l = st.l.tail := by rw [opn_live hs.1]
    have hm : (opnS L st).mad = st.mad := by rw [opn_live hs.1]
    rw [hl, hm] at hI
    show Is L ((g st.l.tail st.mad).next _) st _
    rw [opnX_live hs.1]
    cases e : g st.l.tail st.mad with
    | bad a b =>
     have hd := hI.bad e
     rw [show (opnS L st).op = st.op + 1 by rw [opn_live hs.1]] at hd
     rw [PaR.next_bad]
     exact hd.sht.nod _
    | ok t l n =>
     obtain ⟨k1, k2⟩ := hI.ok e
     rw [PaR.next_ok]
     have hts : (opnS L st).ts = st.ts := by rw [opn_live hs.1]
     rw [hts] at k1
     refine nod_is (T := t.map (shiftN st.ts.length)) (l := l) (n := n) hE ?_ k2 ?_ ?_
     · rw [k1, opn_live hs.1]; rfl
     · rw [here_pk hne]
     · rw [over_shift (by decide), here_pk hne]
       congr 2
       refine Nd.ext' rfl ?_ rfl rfl rfl rfl rfl
       show _ = lastS (f (opnS L st))
       rw [k1]; simp [lastS]
 · rw [if_neg h1, if_neg h1]
   by_cases h2 : nextT 3 [40] st.l = true
   · rw [if_pos h2]
     have hne := next_ne h2
     have hk : ¬ (pkS st).1 = 2 := by
      cases e : st.l with
      | nil => exact absurd e hne
      | cons x r =>
       rw [e] at h2
       have := (isT_kind h2).1
       rw [pkS, e]; show ¬ x.1 = 2; omega
     have ha : atmS L en (frmK L f) st = shtS (sgnS en [41] (frmK L f (opnS L st))) := by unfold atmS; rw [if_neg hk, if_pos h2]
     rw [ha]
     cases sub with
     | none =>
      have hd := opn_dead (en := en) hE hs.1 hne
      have hf : Dead 2 (hereT en st.l) (st.op + 1) (frmK L f (opnS L st)) := hd.row (hd.row (hs.2 _ _ _ _ hd) (.inr rfl)) (.inl rfl)
      rw [hf.sgn]
      exact hf.sht.pow'
     | some g =>
      have hI := frm_is hg hs.2 (opnS L st) (by rw [opn_live hs.1]; exact hE) (by rw [opn_live hs.1]; exact hn) (by rw [opn_live hs.1])
      have hl : (opnS L st).l = st.l.tail := by rw [opn_live hs.1]
      have hm : (opnS L st).mad = st.mad := by rw [opn_live hs.1]
      rw [hl, hm] at hI
      show Is L ((formT L g st.l.tail st.mad).next _) st _
      cases e : formT L g st.l.tail st.mad with
      | bad a b =>
       have hd := hI.bad e
       rw [show (opnS L st).op = st.op + 1 by rw [opn_live hs.1]] at hd
       rw [PaR.next_bad, hd.sgn]
       exact hd.sht.pow'
      | ok t l n =>
       obtain ⟨k1, k2⟩ := hI.ok e
       rw [PaR.next_ok]
       have hts : (opnS L st).ts = st.ts := by rw [opn_live hs.1]
       rw [hts] at k1
       have hs1 : frmK L f (opnS L st) = { st with l := l, mad := n, ts := st.ts ++ t.map (shiftN st.ts.length), op := st.op + 1 } := by rw [k1, opn_live hs.1]
       have kk := sgn_kin (en := en) (st := frmK L f (opnS L st)) (by rw [hs1]; exact hE) [41]
       rw [show (frmK L f (opnS L st)).l = l by rw [hs1], show (frmK L f (opnS L st)).mad = n by rw [hs1]] at kk
       cases e2 : takeT en 3 [41] l n with
       | bad a b =>
        rw [e2] at kk
        have hd : Dead _ _ _ _ := kk
        rw [show (frmK L f (opnS L st)).op = st.op + 1 by rw [hs1]] at hd
        rw [PaR.next_bad]
        exact hd.sht.pow'
       | ok c r m =>
        rw [e2] at kk
        obtain ⟨k3, k4, _⟩ := kk
        rw [PaR.next_ok]
        have hm2 : m = n := by rw [k4, hs1]
        subst hm2
        refine powT_is hE (t := t) (l := r) (n := m) ?_ k2
        rw [k3, hs1]; rfl
   · rw [if_neg h2]
     have hat : Is L (atomT L en st.l st.mad) st (atmS L en (frmK L f) st) := by
      unfold atmS
      rw [if_neg h2]
      cases e : st.l with
      | nil =>
       have k := nam_kin (en := en) hE
       rw [e] at k
       rw [show pkS st = (0, [], 0) by rw [pkS, e]; rfl, if_neg (by decide)]
       have hd : Dead _ _ _ _ := k
       exact hd.nod _
      | cons x r =>
       have hp : pkS st = x := by rw [pkS, e]; rfl
       rw [hp]
       by_cases h3 : x.1 = 2
       · rw [if_pos h3]
         obtain ⟨u1, u2⟩ := unt_kin (en := en) (st := rdS st) hE
         have hr : (rdS st).l = r := by rw [rdS, e]; rfl
         rw [hr] at u1 u2
         unfold atomT
         dsimp only
         rw [if_pos (show isT 2 [] x = true by simp [isT, h3]), u1, u2]
         cases r with
         | nil => exact nod_is (T := []) hE (by simp [rdS, unitT]) hn rfl rfl
         | cons y q =>
          dsimp only
          by_cases h4 : isT 4 [] y = true
          · rw [if_pos h4]
            refine nod_is (T := []) hE ?_ hn rfl ?_
            · simp [rdS, unitT, h4]
            · simp [unitT, h4, lit_shift]
          · rw [if_neg h4]
            refine nod_is (T := []) hE ?_ hn rfl ?_
            · simp [rdS, unitT, h4]
            · simp [unitT, h4, lit_shift]
       · rw [if_neg h3]
         have k := nam_kin (en := en) hE
         rw [e] at k
         unfold atomT
         dsimp only
         rw [if_neg (show ¬ isT 2 [] x = true by simp [isT, h3])]
         unfold nameT at k
         dsimp only at k
         by_cases h4 : x.1 = 1 ∧ isNam x.2.1 = true
         · rw [if_pos h4] at k ⊢
           obtain ⟨k1, _, k2, _⟩ := k
           rw [k1, k2]
           refine nod_is (T := []) hE ?_ hn rfl ?_
           · simp
           · rw [ref_shift]; rfl
         · rw [if_neg h4] at k ⊢
           have hd : Dead _ _ _ _ := k
           exact hd.nod _
     cases e : atomT L en st.l st.mad with
     | bad a b =>
      have hd := hat.bad e
      rw [PaR.next_bad]
      exact hd.pow'
     | ok t l n =>
      obtain ⟨k1, k2⟩ := hat.ok e
      rw [PaR.next_ok]
      exact powT_is hE k1 k2
theorem fac_is (L : Lim) (en : Nat) : ∀ (d k o : Nat), o + d = L.deep → d + 2 ≤ k → IsR L o (facT L en d) (facK L en k)
 | 0, k + 2, o, ho, _ => fun st hE hn hop => by
  refine facS_is (sub := none) (fac_good L en (k + 1)) ⟨by omega, fun e p op s hd => hd.fac _⟩ hE hn
 | d + 1, k + 1, o, ho, hk => fun st hE hn hop => by
  refine facS_is (sub := some (facT L en d)) (fac_good L en k) ⟨by omega, ?_⟩ hE hn
  rw [hop]
  exact fac_is L en d k (o + 1) (by omega) (by omega)
theorem form_is (L : Lim) (en k : Nat) (hk : L.deep + 2 ≤ k) : IsR L 0 (formL L en) (frmK L (facK L en k)) := frm_is (fac_good L en k) (fac_is L en L.deep k 0 (by omega) hk)
end
end Go.Proofs.YtheaepceghnkpaaGreatDoor

/- What the reader of package parse does, and the grammar: nums, declarations, scripts. No condition. -/
namespace Go.Proofs.YtheaepceghnkpaaGreatDoor
open Go.RowKit Limb
set_option linter.unusedVariables false
def numbS (en : Nat) (st : St) : St := if nextT 3 [47] (takS en 2 st).l = true then takS en 2 (rdS (takS en 2 st)) else takS en 2 st
def numbX (en : Nat) (st : St) : List Nat := if nextT 3 [47] (takS en 2 st).l = true then takX en 2 st ++ ((pkS (takS en 2 st)).2.1 ++ takX en 2 (rdS (takS en 2 st))) else takX en 2 st
def numS (en : Nat) (st : St) : St := if nextT 3 [45] st.l = true then numbS en (rdS st) else numbS en st
def numX (en : Nat) (st : St) : List Nat := if nextT 3 [45] st.l = true then (pkS st).2.1 ++ numbX en (rdS st) else numbX en st
def nilS (st : St) : St := { st with ts := [] }
def treS (L : Lim) (en K : Nat) (st : St) : St := frmK L (facK L en K) (nilS st)
def kindK (t : Tk) : Nat := (wordK t).getD 0
def out1 (en : Nat) (s : St) : St := if nextT 1 [105, 110] s.l = true then takS en 4 (rdS s) else s
def out1X (en : Nat) (s : St) : List Nat := if nextT 1 [105, 110] s.l = true then takX en 4 (rdS s) else []
def bodS (L : Lim) (en K k : Nat) (s : St) : St :=
 if k = 1 then takS en 4 (numS en s)
 else if k = 2 then numS en (sgnS en [58] (untS en (numS en s)))
 else if k = 3 then numS en s
 else if k = 4 then treS L en K s
 else if k = 5 then smlS en 2 60 (sgnS en [58] (out1 en (treS L en K s)))
 else s
def bodD (L : Lim) (en K k : Nat) (s : St) (d : Dc) : Dc :=
 if k = 1 then { d with nu := numX en s, un := takX en 4 (numS en s) }
 else if k = 2 then { d with nu := numX en s, un := untX en (numS en s), va := numX en (sgnS en [58] (untS en (numS en s))) }
 else if k = 3 then { d with nu := numX en s }
 else if k = 4 then { d with tr := (treS L en K s).ts }
 else if k = 5 then { d with tr := (treS L en K s).ts, un := out1X en (treS L en K s), pl := ((smlV 2 (sgnS en [58] (out1 en (treS L en K s)))).getD 0 : Nat) }
 else d
def decP (en i : Nat) (st : St) : St := if kindK (pkS st) = 0 then refS en st else if 60 ≤ i then failS 2 (pkS st).2.2 st else st
def dec1 (en i : Nat) (st : St) : St := rdS (decP en i st)
def dec2 (en i : Nat) (st : St) : St := namS en (dec1 en i st)
def dec3 (en i : Nat) (st : St) : St := if kindK (pkS st) = 3 then namS en (dec2 en i st) else dec2 en i st
def dec4 (en i : Nat) (st : St) : St := sgnS en [61] (dec3 en i st)
def dec5 (L : Lim) (en K i : Nat) (st : St) : St := bodS L en K (kindK (pkS st)) (dec4 en i st)
def dclS (L : Lim) (en K i : Nat) (st : St) : St := sgnS en [59] (dec5 L en K i st)
def decO (en i : Nat) (st : St) : List Nat := if kindK (pkS st) = 3 then namX en (dec2 en i st) else []
def dec0 (en i : Nat) (st : St) : Dc := ⟨(kindK (pkS st) : Nat), namX en (dec1 en i st), decO en i st, [], [], [], [], 0, (pkS (dec1 en i st)).2.2⟩
def decD (L : Lim) (en K i : Nat) (st : St) : Dc := bodD L en K (kindK (pkS st)) (dec4 en i st) (dec0 en i st)
def Ki (L : Lim) (op : Nat) {α : Type} (r : PaR α) (x : α → Prop) (s : St) : Prop := match r with
 | .ok a l n => s.E = 0 ∧ s.l = l ∧ s.mad = n ∧ s.op = op ∧ n ≤ L.nodes ∧ x a
 | .bad e p => Dead e p op s
section
variable {L : Lim} {en op : Nat} {st s s' : St} {α β : Type} {r : PaR α} {x : α → Prop} {f : α → List Tk → Nat → PaR β} {y : β → Prop}
theorem Ki.next (h : Ki L op r x s) (hd : ∀ e p, Dead e p op s → Dead e p op s') (hk : ∀ a, x a → s.E = 0 → s.mad ≤ L.nodes → s.op = op → Ki L op (f a s.l s.mad) y s') : Ki L op (r.next f) y s' := by
 cases r with
 | bad e p => exact hd _ _ h
 | ok a l n =>
  obtain ⟨h1, rfl, rfl, h4, h5, h6⟩ := h
  exact hk a h6 h1 h5 h4
theorem Kin.ki (h : Kin st r x s) (hE : st.E = 0) (hn : st.mad ≤ L.nodes) (ho : st.op = op) : Ki L op r x s := by
 subst ho
 cases r with
 | bad e p => exact h
 | ok a l n =>
  obtain ⟨rfl, rfl, h3⟩ := h
  exact ⟨hE, rfl, rfl, rfl, hn, h3⟩
theorem Ki.mono {y : α → Prop} (h : Ki L op r x s) (k : ∀ a, x a → y a) : Ki L op r y s := by
 cases r with
 | bad e p => exact h
 | ok a l n => exact ⟨h.1, h.2.1, h.2.2.1, h.2.2.2.1, h.2.2.2.2.1, k a h.2.2.2.2.2⟩
theorem ki_ok {a : α} (hE : s.E = 0) (hn : s.mad ≤ L.nodes) (ho : s.op = op) (h : x a) : Ki L op (.ok a s.l s.mad) x s := ⟨hE, rfl, rfl, ho, hn, h⟩
theorem tak_ki (hE : st.E = 0) (hn : st.mad ≤ L.nodes) (ho : st.op = op) {kd : Nat} (hk : kd ≠ 0) : Ki L op (takeT en kd [] st.l st.mad) (fun t => takX en kd st = t.2.1 ∧ t ∈ st.l) (takS en kd st) := (tak_kin hE hk).ki hE hn ho
theorem sgn_ki (hE : st.E = 0) (hn : st.mad ≤ L.nodes) (ho : st.op = op) (tx : List Nat) : Ki L op (takeT en 3 tx st.l st.mad) (fun _ => True) (sgnS en tx st) := (sgn_kin hE tx).ki hE hn ho
theorem nam_ki (hE : st.E = 0) (hn : st.mad ≤ L.nodes) (ho : st.op = op) : Ki L op (nameT en st.l st.mad) (fun t => namX en st = t.2.1 ∧ t = pkS st) (namS en st) := (nam_kin hE).ki hE hn ho
theorem next_tx {c : Nat} {l : List Tk} (h : nextT 3 [c] l = true) : (pkL l).2.1 = [c] := by
 cases l with
 | nil => cases h
 | cons t r => exact isT_tx h
theorem Dead.numb {e p : Int} (h : Dead e p op s) : numbS en s = s := by unfold numbS; rw [h.tak, h.next, if_neg (by decide)]
theorem Dead.num {e p : Int} (h : Dead e p op s) : numS en s = s := by unfold numS; rw [h.next, if_neg (by decide), h.numb]
theorem numb_ki (hE : st.E = 0) (hn : st.mad ≤ L.nodes) (ho : st.op = op) (pre : List Nat) : Ki L op (numB en pre st.l st.mad) (fun q => pre ++ numbX en st = q) (numbS en st) := by
 unfold numB
 refine (tak_ki (en := en) hE hn ho (kd := 2) (by decide)).next (fun e p hd => ?_) fun t ht h1 h2 h3 => ?_
 · unfold numbS; rw [hd.next, if_neg (by decide)]; exact hd
 · unfold numbS numbX
   by_cases h : nextT 3 [47] (takS en 2 st).l = true
   · rw [if_pos h, if_pos h, if_pos h]
     refine (tak_ki (st := rdS (takS en 2 st)) (en := en) h1 h2 h3 (kd := 2) (by decide)).next (fun e p hd => hd) fun u hu g1 g2 g3 => ?_
     refine ki_ok g1 g2 g3 ?_
     rw [ht.1, hu.1, pkS, next_tx h]; simp
   · rw [if_neg h, if_neg h, if_neg h]
     refine ki_ok h1 h2 h3 ?_
     rw [ht.1]
theorem num_ki (hE : st.E = 0) (hn : st.mad ≤ L.nodes) (ho : st.op = op) : Ki L op (numT en st.l st.mad) (fun q => numX en st = q) (numS en st) := by
 unfold numT numS numX
 by_cases h : nextT 3 [45] st.l = true
 · rw [if_pos h, if_pos h, if_pos h, pkS, next_tx h]
   exact numb_ki (st := rdS st) hE hn ho [45]
 · rw [if_neg h, if_neg h, if_neg h]
   exact (numb_ki hE hn ho []).mono fun q hq => hq
theorem Dead.nil {e p : Int} (h : Dead e p op s) : Dead e p op (nilS s) := ⟨h.E, h.P, h.l, h.op, h.ne⟩
theorem Dead.tre {e p : Int} (h : Dead e p op s) (K : Nat) : Dead e p op (treS L en (K + 1) s) := h.nil.frm K
theorem tre_ki (hE : st.E = 0) (hn : st.mad ≤ L.nodes) (ho : st.op = 0) {K : Nat} (hK : L.deep + 2 ≤ K) : Ki L 0 (formL L en st.l st.mad) (fun t => (treS L en K st).ts = t) (treS L en K st) := by
 have h := form_is L en K hK (nilS st) hE hn ho
 rw [show (nilS st).l = st.l from rfl, show (nilS st).mad = st.mad from rfl] at h
 unfold treS
 cases e : formL L en st.l st.mad with
 | bad a b =>
  have hd := h.bad e
  rw [show (nilS st).op = 0 from ho] at hd
  exact hd
 | ok t l n =>
  obtain ⟨k1, k2⟩ := h.ok e
  rw [k1]
  refine ⟨hE, rfl, rfl, ho, k2, ?_⟩
  show [] ++ t.map (shiftN 0) = t
  rw [List.nil_append]
  have : t.map (shiftN 0) = t.map id := List.map_congr_left fun z _ => shiftN_zero z
  rw [this, List.map_id]
theorem semi_ki (hE : st.E = 0) (hn : st.mad ≤ L.nodes) (ho : st.op = op) (d : Dc) : Ki L op (semiT en d st.l st.mad) (fun q => d = q) (sgnS en [59] st) := by
 unfold semiT
 exact (sgn_ki hE hn ho [59]).next (fun e p hd => hd) fun u _ g1 g2 g3 => ki_ok g1 g2 g3 rfl
theorem unt_st (hE : st.E = 0) : (untS en st).l = (unitT st.l).2 ∧ untX en st = (unitT st.l).1 ∧ (untS en st).E = st.E ∧ (untS en st).mad = st.mad ∧ (untS en st).op = st.op := by
 obtain ⟨h1, h2⟩ := unt_kin (en := en) hE
 rw [h1]
 exact ⟨rfl, h2, rfl, rfl, rfl⟩
theorem outB_ki (hE : st.E = 0) (hn : st.mad ≤ L.nodes) (ho : st.op = op) (d : Dc) : Ki L op (outB en d st.l st.mad) (fun q => { d with pl := ((smlV 2 (sgnS en [58] st)).getD 0 : Nat) } = q) (sgnS en [59] (smlS en 2 60 (sgnS en [58] st))) := by
 unfold outB
 refine (sgn_ki hE hn ho [58]).next (fun e p hd => ?_) fun u _ h1 h2 h3 => ?_
 · rw [hd.sml, hd.sgn]; exact hd
 · have k := sml_kin (en := en) (st := sgnS en [58] st) h1 2 60
   cases e : takeT en 2 [] (sgnS en [58] st).l (sgnS en [58] st).mad with
   | bad a b =>
    rw [e, PaR.next_bad] at k
    have hd : Dead _ _ _ _ := k
    rw [h3] at hd
    rw [PaR.next_bad, hd.sgn]; exact hd
   | ok t l n =>
    rw [e, PaR.next_ok] at k
    rw [PaR.next_ok]
    cases e2 : smallT t.2.1 2 with
    | none =>
     simp only [e2] at k ⊢
     have hd : Dead _ _ _ _ := k
     rw [h3] at hd
     rw [hd.sgn]; exact hd
    | some v =>
     simp only [e2] at k ⊢
     by_cases h : 60 < v
     · rw [if_pos h] at k ⊢
       have hd : Dead _ _ _ _ := k
       rw [h3] at hd
       rw [hd.sgn]; exact hd
     · rw [if_neg h] at k ⊢
       obtain ⟨k1, k2, k3⟩ := k
       have a1 : (smlS en 2 60 (sgnS en [58] st)).E = 0 := by rw [k1]; exact h1
       have a2 : (smlS en 2 60 (sgnS en [58] st)).mad = n := by rw [k1, k2]
       have a3 : (smlS en 2 60 (sgnS en [58] st)).op = op := by rw [k1]; exact h3
       have a4 : (smlS en 2 60 (sgnS en [58] st)).l = l := by rw [k1]
       have := semi_ki (L := L) (en := en) a1 (by rw [a2, k2]; exact h2) a3 { d with pl := (v : Int) }
       rw [a2, a4] at this
       refine this.mono fun q hq => ?_
       rw [← hq, k3]; rfl
theorem Dead.bod {e p : Int} (h : Dead e p op s) (K k : Nat) : Dead e p op (bodS L en (K + 1) k s) := by
 unfold bodS
 split
 · rw [h.num, h.tak]; exact h
 · split
   · rw [h.num, h.unt, h.sgn, h.num]; exact h
   · split
     · rw [h.num]; exact h
     · split
       · exact h.tre K
       · split
         · have ht := h.tre (L := L) (en := en) K
           have ho : Dead e p op (out1 en (treS L en (K + 1) s)) := by unfold out1; rw [ht.next, if_neg (by decide)]; exact ht
           rw [ho.sgn, ho.sml]; exact ho
         · exact h
theorem bod_ki (hE : st.E = 0) (hn : st.mad ≤ L.nodes) (ho : st.op = 0) {K k : Nat} (hK : L.deep + 2 ≤ K) (hk : 1 ≤ k ∧ k ≤ 5) (d : Dc) (hd0 : d.nu = [] ∧ d.va = [] ∧ d.un = [] ∧ d.tr = [] ∧ d.pl = 0) : Ki L 0 (bodyT L en k d st.l st.mad) (fun q => bodD L en K k st d = q) (sgnS en [59] (bodS L en K k st)) := by
 unfold bodyT bodS bodD
 by_cases h1 : k = 1
 · rw [if_pos h1, if_pos h1, if_pos h1]
   refine (num_ki hE hn ho).next (fun e p hd => by rw [hd.tak, hd.sgn]; exact hd) fun q hq a1 a2 a3 => ?_
   refine (tak_ki a1 a2 a3 (by decide)).next (fun e p hd => by rw [hd.sgn]; exact hd) fun u hu b1 b2 b3 => ?_
   refine (semi_ki b1 b2 b3 _).mono fun q hq2 => ?_
   rw [← hq2, hq, hu.1]
 rw [if_neg h1, if_neg h1, if_neg h1]
 by_cases h2 : k = 2
 · rw [if_pos h2, if_pos h2, if_pos h2]
   refine (num_ki hE hn ho).next (fun e p hd => by rw [hd.unt, hd.sgn, hd.num, hd.sgn]; exact hd) fun q hq a1 a2 a3 => ?_
   obtain ⟨u1, u2, u3, u4, u5⟩ := unt_st (en := en) a1
   rw [← u1, ← u4, ← u2]
   refine (sgn_ki (u3.trans a1) (by rw [u4]; exact a2) (u5.trans a3) [58]).next (fun e p hd => by rw [hd.num, hd.sgn]; exact hd) fun _ _ b1 b2 b3 => ?_
   refine (num_ki b1 b2 b3).next (fun e p hd => by rw [hd.sgn]; exact hd) fun v hv c1 c2 c3 => ?_
   refine (semi_ki c1 c2 c3 _).mono fun q hq2 => ?_
   rw [← hq2, hq, hv]
 rw [if_neg h2, if_neg h2, if_neg h2]
 by_cases h3 : k = 3
 · rw [if_pos h3, if_pos h3, if_pos h3]
   refine (num_ki hE hn ho).next (fun e p hd => by rw [hd.sgn]; exact hd) fun q hq a1 a2 a3 => ?_
   refine (semi_ki a1 a2 a3 _).mono fun q hq2 => ?_
   rw [← hq2, hq]
 rw [if_neg h3, if_neg h3, if_neg h3]
 by_cases h4 : k = 4
 · rw [if_pos h4, if_pos h4, if_pos h4]
   refine (tre_ki hE hn ho hK).next (fun e p hd => by rw [hd.sgn]; exact hd) fun t ht a1 a2 a3 => ?_
   refine (semi_ki a1 a2 a3 _).mono fun q hq2 => ?_
   rw [← hq2, ht]
 rw [if_neg h4, if_neg h4, if_neg h4, if_pos (show k = 5 by omega), if_pos (show k = 5 by omega)]
 refine (tre_ki hE hn ho hK).next (fun e p hd => ?_) fun t ht a1 a2 a3 => ?_
 · have h : Dead e p 0 (out1 en (treS L en K st)) := by unfold out1; rw [hd.next, if_neg (by decide)]; exact hd
   rw [h.sgn, h.sml, h.sgn]; exact h
 · unfold out1 out1X
   by_cases h : nextT 1 [105, 110] (treS L en K st).l = true
   · rw [if_pos h, if_pos h, if_pos h]
     refine (tak_ki (st := rdS (treS L en K st)) a1 a2 a3 (kd := 4) (by decide)).next (fun e p hd => by rw [hd.sgn, hd.sml, hd.sgn]; exact hd) fun u hu b1 b2 b3 => ?_
     refine (outB_ki b1 b2 b3 _).mono fun q hq => ?_
     rw [← hq, ht, hu.1]
   · rw [if_neg h, if_neg h, if_neg h]
     refine (outB_ki a1 a2 a3 _).mono fun q hq => ?_
     rw [← hq, ht, hd0.2.2.1]
theorem wordK_le {t : Tk} {k : Nat} (h : wordK t = some k) : 1 ≤ k ∧ k ≤ 5 := by
 unfold wordK at h
 repeat' split at h
 all_goals first | (cases h; decide) | cases h
theorem Dead.dec {e p : Int} {i K : Nat} {st : St} (h : Dead e p op (decP en i st)) : Dead e p op (dclS L en (K + 1) i st) := by
 have e1 : dec1 en i st = decP en i st := h.rd
 have e2 : dec2 en i st = decP en i st := by unfold dec2; rw [e1, h.nam]
 have e3 : dec3 en i st = decP en i st := by
  unfold dec3
  rw [e2]
  split
  · exact h.nam
  · rfl
 have e4 : dec4 en i st = decP en i st := by unfold dec4; rw [e3, h.sgn]
 have h5 : Dead e p op (dec5 L en (K + 1) i st) := by unfold dec5; rw [e4]; exact h.bod K _
 unfold dclS
 rw [h5.sgn]; exact h5
theorem dec_ki (hE : st.E = 0) (hn : st.mad ≤ L.nodes) (ho : st.op = 0) (hne : st.l ≠ []) {K i : Nat} (hK : L.deep + 2 ≤ K) : Ki L 0 (declT L en i st.l st.mad) (fun q => decD L en K i st = q) (dclS L en K i st) := by
 obtain ⟨K, rfl⟩ : ∃ m, K = m + 1 := ⟨K - 1, by omega⟩
 obtain ⟨w, r, e⟩ : ∃ w r, st.l = w :: r := by
  cases e : st.l with
  | nil => exact absurd e hne
  | cons w r => exact ⟨w, r, rfl⟩
 have hp : pkS st = w := by rw [pkS, e]; rfl
 have hh : hereT en st.l = w.2.2 := by rw [e]; rfl
 rw [e]
 show Ki L 0 (match wordK w with | none => _ | some k => _) _ _
 cases ek : wordK w with
 | none =>
  have hk0 : kindK (pkS st) = 0 := by rw [hp, kindK, ek]; rfl
  refine Dead.dec ?_
  unfold decP
  rw [if_pos hk0, refS, hh, ← ho]
  exact fail_dead hE (by decide)
 | some k =>
  have hk := wordK_le ek
  have hk0 : kindK (pkS st) = k := by rw [hp, kindK, ek]; rfl
  show Ki L 0 (if 60 ≤ i then _ else _) _ _
  by_cases hi : 60 ≤ i
  · rw [if_pos hi]
    refine Dead.dec ?_
    unfold decP
    rw [if_neg (by omega), if_pos hi, hp, ← ho]
    exact fail_dead hE (by decide)
  · rw [if_neg hi]
    have e1 : dec1 en i st = rdS st := by unfold dec1 decP; rw [if_neg (by omega), if_neg hi]
    have hr : (rdS st).l = r := by rw [rdS, e]; rfl
    have hnam := nam_ki (L := L) (op := 0) (en := en) (st := rdS st) hE hn ho
    rw [hr] at hnam
    unfold dclS dec5 decD
    rw [hk0]
    have hD : ∀ e p, Dead e p 0 (dec4 en i st) → Dead e p 0 (sgnS en [59] (bodS L en (K + 1) k (dec4 en i st))) := fun e p hd => by
     have := hd.bod (L := L) (en := en) K k
     rw [this.sgn]; exact this
    have hhead : Ki L 0 (headT en k r st.mad) (fun d => dec0 en i st = d) (dec4 en i st) := by
     unfold headT
     have e2 : namS en (rdS st) = dec2 en i st := by unfold dec2; rw [e1]
     rw [e2] at hnam
     refine hnam.next (fun e p hd => ?_) fun x hx a1 a2 a3 => ?_
     · have e3 : dec3 en i st = dec2 en i st := by
        unfold dec3
        split
        · exact hd.nam
        · rfl
       unfold dec4
       rw [e3, hd.sgn]; exact hd
     · by_cases h3 : k = 3
       · rw [if_pos h3]
         have e3 : dec3 en i st = namS en (dec2 en i st) := by unfold dec3; rw [hk0, if_pos h3]
         refine (nam_ki a1 a2 a3).next (fun e p hd => ?_) fun y hy b1 b2 b3 => ?_
         · unfold dec4; rw [e3, hd.sgn]; exact hd
         · rw [← e3] at b1 b2 b3 ⊢
           refine (sgn_ki b1 b2 b3 [61]).next (fun e p hd => hd) fun _ _ c1 c2 c3 => ?_
           refine ki_ok c1 c2 c3 ?_
           unfold dec0 decO
           rw [hk0, if_pos h3, e1, hx.1, hy.1, ← hx.2]
       · rw [if_neg h3]
         have e3 : dec3 en i st = dec2 en i st := by unfold dec3; rw [hk0, if_neg h3]
         rw [← e3] at a1 a2 a3 ⊢
         refine (sgn_ki a1 a2 a3 [61]).next (fun e p hd => hd) fun _ _ c1 c2 c3 => ?_
         refine ki_ok c1 c2 c3 ?_
         unfold dec0 decO
         rw [hk0, if_neg h3, e1, hx.1, ← hx.2]
    refine hhead.next hD fun d hd a1 a2 a3 => ?_
    rw [hd]
    refine bod_ki a1 a2 a3 hK hk d ?_
    rw [← hd]
    exact ⟨rfl, rfl, rfl, rfl, rfl⟩
end
end Go.Proofs.YtheaepceghnkpaaGreatDoor

/- Rows of a call's own beside rows of another type. No condition. -/
namespace Go.Proofs.YtheaepceghnkpaaGreatDoor
open Go.RowKit Limb
set_option linter.unusedVariables false
theorem OwnR.differ {w : World} {B sz n c g : Nat} {e T : TypeId} {A : Option Addr} {xs : List Value} {V : Array Value} (h : OwnR w B e sz A n c xs) (hr : RowA w g T V) (ht : T ≠ e) : Value.ownBlock (.slice A n c) ≠ some g := by
 rcases h.2 with ⟨hv, h0⟩ | ⟨g2, cap, cur, hv, hB, hg, _⟩
 · rw [hv]; intro h; cases h
 · rw [hv]
   intro e2
   have e3 : g2 = g := by injection e2
   subst e3
   unfold RowA at hr
   have h1 := hg.symm.trans hr
   injection h1 with h1
   injection h1 with _ h2 _
   exact ht h2.symm
theorem OwnR.over {w w' : World} {B sz n c : Nat} {e : TypeId} {A : Option Addr} {xs : List Value} {r : Option Nat} (h : OwnR w B e sz A n c xs) (hg : w.grownBy w' r) (hr : ∀ q, r = some q → Value.ownBlock (.slice A n c) ≠ some q) : OwnR w' B e sz A n c xs := by
 refine ⟨h.1, ?_⟩
 rcases h.2 with h1 | ⟨g, cap, cur, hv, hB, hgc, hrest⟩
 · exact .inl h1
 · refine .inr ⟨g, cap, cur, hv, hB, ?_, hrest⟩
   have hlt : g < w.heap.size := by
    rcases Nat.lt_or_ge g w.heap.size with h | h
    · exact h
    · rw [Array.getElem?_eq_none h] at hgc; cases hgc
   rw [← hgc]
   refine hg.block g hlt fun e2 => hr g e2.symm ?_
   rw [hv]; rfl
def OwnX (w : World) (A : Option Addr) (n c : Nat) (ts : List Nd) : Prop := ∃ B, OwnT w B A n c ts
theorem OwnT.x {w : World} {B n c : Nat} {A : Option Addr} {ts : List Nd} (h : OwnT w B A n c ts) : OwnX w A n c ts := ⟨B, h⟩
theorem OwnX.tree {w : World} {n c : Nat} {A : Option Addr} {ts : List Nd} (h : OwnX w A n c ts) : TreR w A n c ts := by obtain ⟨B, h⟩ := h; exact h.tree
theorem OwnX.below {w w' : World} {n c : Nat} {A : Option Addr} {ts : List Nd} (h : OwnX w A n c ts) (hb : Below w.heap.size w w') : OwnX w' A n c ts := by obtain ⟨B, h⟩ := h; exact ⟨B, h.below hb⟩
theorem OwnX.over {w w' : World} {n c g : Nat} {A : Option Addr} {ts : List Nd} {T : TypeId} {V : Array Value} (h : OwnX w A n c ts) (hr : RowA w g T V) (ht : T ≠ 47) (hg : w.grownBy w' (some g)) : OwnX w' A n c ts := by
 obtain ⟨B, h1, h2⟩ := h
 exact ⟨B, h1, h2.over hg fun q hq => by injection hq with hq; subst hq; exact h2.differ hr ht⟩
theorem OwnX.nil (w : World) : OwnX w none 0 0 [] := ⟨0, rfl, OwnR.nil _ _ _ _⟩
def DsO (w : World) (xs : List DS) : Prop := ∀ x ∈ xs, OwnX w x.A x.n x.c x.d.tr
theorem DsO.below {w w' : World} {xs : List DS} (h : DsO w xs) (hb : Below w.heap.size w w') : DsO w' xs := fun x hx => (h x hx).below hb
theorem DsO.over {w w' : World} {xs : List DS} {g : Nat} {T : TypeId} {V : Array Value} (h : DsO w xs) (hr : RowA w g T V) (ht : T ≠ 47) (hg : w.grownBy w' (some g)) : DsO w' xs := fun x hx => (h x hx).over hr ht hg
theorem DsO.dsr {w : World} {xs : List DS} (h : DsO w xs) : DsR w xs := fun x hx => (h x hx).tree
theorem DsO.snoc {w : World} {xs : List DS} (h : DsO w xs) {x : DS} (hx : OwnX w x.A x.n x.c x.d.tr) : DsO w (xs ++ [x]) := fun y hy => by
 rcases List.mem_append.1 hy with hy | hy
 · exact h y hy
 · rw [List.mem_singleton.1 hy]; exact hx
theorem OwnD.rowA {w : World} {B n c : Nat} {A : Option Addr} {xs : List DS} (h : OwnD w B A n c xs) {g : Nat} (hg : Value.ownBlock (.slice A n c) = some g) : ∃ V, RowA w g 45 V := by
 rcases h.2.2 with ⟨hv, h0⟩ | ⟨g2, cap, cur, hv, hB, hgc, _⟩
 · rw [hv] at hg; cases hg
 · rw [hv] at hg
   have e3 : g2 = g := by injection hg
   subst e3
   exact ⟨cur, hgc⟩
theorem td_tn : 45 ≠ 47 := by decide
theorem DsO.grown {w w' : World} {B n c : Nat} {A : Option Addr} {xs ys : List DS} (h : DsO w ys) (ho : OwnD w B A n c xs) (hg : w.grownBy w' (Value.ownBlock (.slice A n c))) : DsO w' ys := by
 intro y hy
 obtain ⟨B2, h1, h2⟩ := h y hy
 refine ⟨B2, h1, h2.over hg fun q hq => ?_⟩
 obtain ⟨V, hr⟩ := ho.rowA hq
 exact h2.differ hr td_tn
theorem OwnX.grown {w w' : World} {B n c m d : Nat} {A C : Option Addr} {xs : List DS} {ts : List Nd} (h : OwnX w C m d ts) (ho : OwnD w B A n c xs) (hg : w.grownBy w' (Value.ownBlock (.slice A n c))) : OwnX w' C m d ts := by
 obtain ⟨B2, h1, h2⟩ := h
 refine ⟨B2, h1, h2.over hg fun q hq => ?_⟩
 obtain ⟨V, hr⟩ := ho.rowA hq
 exact h2.differ hr td_tn
theorem grown_set (w : World) (g k : Nat) (v : Value) : w.grownBy (w.setCell ⟨g, k, none⟩ v) (some g) :=
 ⟨rfl, rfl, rfl, by simp, fun i _ hr => Below.heap_setCell w _ v i (fun e => hr (by subst e; rfl))⟩
theorem DsO.set {w : World} {B n c g k : Nat} {xs ys : List DS} {v : Value} (h : DsO w ys) (ho : OwnD w B (some ⟨g, 0, none⟩) n c xs) : DsO (w.setCell ⟨g, k, none⟩ v) ys := by
 obtain ⟨V, hr⟩ := ho.rowA (g := g) rfl
 exact h.over hr td_tn (grown_set w g k v)
theorem OwnX.set {w : World} {B n c g k m d : Nat} {A : Option Addr} {xs : List DS} {ts : List Nd} {v : Value} (h : OwnX w A m d ts) (ho : OwnD w B (some ⟨g, 0, none⟩) n c xs) : OwnX (w.setCell ⟨g, k, none⟩ v) A m d ts := by
 obtain ⟨V, hr⟩ := ho.rowA (g := g) rfl
 exact h.over hr td_tn (grown_set w g k v)
end Go.Proofs.YtheaepceghnkpaaGreatDoor
