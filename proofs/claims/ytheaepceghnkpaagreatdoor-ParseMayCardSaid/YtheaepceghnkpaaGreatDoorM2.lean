/- Part 2 of the texts that the statements of this seat lean on: mathematics, and what functions answer, as contracts over memory; each part says its own conditions. -/
import Derived.Test.YtheaepceghnkpaaGreatDoorM1
import Derived.Deep.WholeRow
import Derived.Deep.MidRow
import Derived.ProofKit
import Derived.OpenShut
import Derived.ShutString
import Derived.ChangeOld
import Derived.Deep.Slices
/- What the reference of layer 9 answers (Length, Good), as contracts over memory. Condition: texts that can be read. -/
namespace Go.Proofs.YtheaepceghnkpaaGreatDoor
open Go.RowKit Limb
set_option linter.unusedVariables false
theorem lit_at_end {l : List Nat} {n : Nat} (h : l.length ≤ n) : l.drop n = [] := List.drop_eq_nil_of_le h
theorem len_nil {l : List Nat} {n : Nat} (h : l.length ≤ n) : litPoint (l.drop n) = 0 ∧ litExp (l.drop n) = 0 := by
 rw [lit_at_end h]
 exact ⟨litPoint_none (by rw [lim_nil]; decide), litExp_none (by rw [lim_nil]; decide)⟩
theorem point_no {l : List Nat} {n : Nat} (h : lim l n ≠ 46) : litPoint (l.drop n) = 0 := litPoint_none (by rw [lim_drop0]; exact h)
theorem point_yes {l : List Nat} {n k : Nat} (h : lim l n = 46) (hk : litRun (l.drop (n + 1)) = k) : litPoint (l.drop n) = if k = 0 then 0 else 1 + k := by
 unfold litPoint
 rw [lim_drop0, List.drop_drop, hk]
 by_cases h0 : k = 0
 · rw [if_neg (fun h2 => h2.2 h0), if_pos h0]
 · rw [if_pos ⟨h, h0⟩, if_neg h0]
theorem exp_no {l : List Nat} {n : Nat} (h : lim l n ≠ 101) : litExp (l.drop n) = 0 := litExp_none (by rw [lim_drop0]; exact h)
theorem exp_yes {l : List Nat} {n a k : Nat} (h : lim l n = 101) (ha : (lim l (n + 1) = 45 ∧ a = 2) ∨ (lim l (n + 1) ≠ 45 ∧ a = 1)) (hk : litRun (l.drop (n + a)) = k) : litExp (l.drop n) = if k = 0 then 0 else a + min k 3 := by
 have e : litAt (l.drop n) = a := by
  unfold litAt
  rw [lim_drop1]
  rcases ha with ⟨h1, h2⟩ | ⟨h1, h2⟩
  · rw [if_pos h1, h2]
  · rw [if_neg h1, h2]
 unfold litExp
 rw [lim_drop0, e, List.drop_drop, hk]
 by_cases h0 : k = 0
 · rw [if_neg (fun h2 => h2.2 h0), if_pos h0]
 · rw [if_pos ⟨h, h0⟩, if_neg h0]
theorem len_sum {l : List Nat} {n m : Nat} (h0 : litRun l = n) (hn : n ≠ 0) (hm : n + litPoint (l.drop n) = m) : litLen l = m + litExp (l.drop m) := by
 unfold litLen
 rw [h0, if_neg hn, hm]
theorem lim_past {l : List Nat} {n : Nat} (h : l.length ≤ n) : lim l n = 0 := by
 simp [lim, List.getD_eq_getElem?_getD, List.getElem?_eq_none h]
set_option maxHeartbeats 1000000 in
set_option maxRecDepth 100000 in
theorem refLLen_c (s : ByteArray) (hs : s.size ≤ 9223372036854775807) (w : World) :
 Calls Tryz.prog 83 #[.string s] w fun e w' => e = .returned (.int .i64 (litLen (bytesOf s) : Int)) ∧ w = w' := by
 have hl := length_bytesOf s
 have HL := Lib.hid hl
 clear hl
 obtain ⟨n, hn⟩ : ∃ n, litRun ((bytesOf s).drop 0) = n := ⟨_, rfl⟩
 have HN := Lib.hid hn
 have hn0 : litRun (bytesOf s) = n := hn
 have HN0 := Lib.hid hn0
 have hns : n ≤ s.size := by have := litRun_le (bytesOf s); rw [hn0, HL.out] at this; exact this
 clear hn hn0
 go_enter Tryz.func83, Tryz.ntmps83
 go_wp2_with fail
 refine (refLRun_at s hs 0 (Nat.zero_le _) 0 rfl n HN.out w).mono ?_
 rintro e w1 ⟨rfl, rfl⟩
 by_cases h0 : n = 0
 · subst h0
   have HE : RowKit.Hid (litLen (bytesOf s) = 0) := if_pos HN0.out
   go_wp2
   go_ret
   exact ⟨by rw [HE.out]; rfl, rfl⟩
 · have h1 : ((n : Int) == 0) = false := by rw [beq_eq_false_iff_ne]; omega
   by_cases t0 : n < s.size
   · obtain ⟨d, hd_d⟩ : ∃ d, (s[n]'t0).toNat = d := ⟨_, rfl⟩
     have L_d : RowKit.Hid (lim (bytesOf s) (n) = d) := by show _ = _; rw [← byte_at s (n) t0, hd_d]
     by_cases g : d = 46
     · have e_d : ((d : Int) == 46) = true := by rw [beq_iff_eq]; omega
       obtain ⟨k, h_k⟩ : ∃ k, litRun ((bytesOf s).drop (n + 1)) = k := ⟨_, rfl⟩
       have H_k := Lib.hid h_k
       clear h_k
       go_wp2_with fail
       refine (refLRun_at s hs (n + 1) (by omega) ((n : Int) + 1) (by omega) k H_k.out w).mono ?_
       rintro e w1 ⟨rfl, rfl⟩
       by_cases z : k = 0
       · have z1 : ¬ (0 : Int) < (k : Int) := by omega
         have e_d2 : ((d : Int) == 101) = false := by rw [beq_eq_false_iff_ne]; omega
         have HS : RowKit.Hid (litLen (bytesOf s) = n + litExp ((bytesOf s).drop n)) := len_sum HN0.out h0 (by rw [point_yes (by rw [L_d.out]; exact g) H_k.out, if_pos z, Nat.add_zero])
         obtain ⟨m, hm⟩ : ∃ m, m = n := ⟨_, rfl⟩
         rw [← hm] at HS
         subst hm
         clear HN HN0
         have HE : RowKit.Hid (litLen (bytesOf s) = m) := by
          show _ = _
          rw [HS.out, exp_no (by rw [L_d.out, g]; decide), Nat.add_zero]
         clear HS
         go_wp2
         go_ret
         exact ⟨by rw [HE.out]; rfl, rfl⟩
       · have z1 : 0 < k := by omega
         have HS0 : RowKit.Hid (litLen (bytesOf s) = n + (1 + k) + litExp ((bytesOf s).drop (n + (1 + k)))) := len_sum HN0.out h0 (by rw [point_yes (by rw [L_d.out]; exact g) H_k.out, if_neg z])
         have hb : n + (1 + k) ≤ s.size := by
          have h9 := litRun_le ((bytesOf s).drop (n + 1))
          rw [H_k.out, List.length_drop, HL.out] at h9
          omega
         obtain ⟨m, hm⟩ : ∃ m, n + (1 + k) = m := ⟨_, rfl⟩
         rw [hm] at HS0 hb
         have HS := HS0
         have em0 : (n : Int) + (1 + (k : Int)) = (m : Int) := by omega
         clear HS0 HN HN0 z hm
         by_cases t1 : m < s.size
         · obtain ⟨d1, hd_d1⟩ : ∃ d1, (s[m]'t1).toNat = d1 := ⟨_, rfl⟩
           have L_d1 : RowKit.Hid (lim (bytesOf s) (m) = d1) := by show _ = _; rw [← byte_at s (m) t1, hd_d1]
           by_cases g1 : d1 = 101
           · have e_d1 : ((d1 : Int) == 101) = true := by rw [beq_iff_eq]; omega
             by_cases t2 : m + 1 < s.size
             · obtain ⟨d2, hd_d2⟩ : ∃ d2, (s[m + 1]'t2).toNat = d2 := ⟨_, rfl⟩
               have L_d2 : RowKit.Hid (lim (bytesOf s) (m + 1) = d2) := by show _ = _; rw [← byte_at s (m + 1) t2, hd_d2]
               by_cases g2 : d2 = 45
               · have e_d2 : ((d2 : Int) == 45) = true := by rw [beq_iff_eq]; omega
                 obtain ⟨k2, h_k2⟩ : ∃ k, litRun ((bytesOf s).drop (m + 2)) = k := ⟨_, rfl⟩
                 have H_k2 := Lib.hid h_k2
                 clear h_k2
                 go_wp2_with fail
                 refine (refLRun_at s hs (m + 2) (by omega) ((m : Int) + 1 + 1) (by omega) k2 H_k2.out w).mono ?_
                 rintro e w1 ⟨rfl, rfl⟩
                 by_cases z2 : k2 = 0
                 · subst z2
                   have HE : RowKit.Hid (litLen (bytesOf s) = m) := by
                    show _ = _
                    rw [HS.out, exp_yes (by rw [L_d1.out]; exact g1) (.inl ⟨by rw [L_d2.out]; exact g2, rfl⟩) H_k2.out, if_pos rfl, Nat.add_zero]
                   clear HS
                   go_wp2
                   go_ret
                   exact ⟨by rw [HE.out]; rfl, rfl⟩
                 · have z3 : 0 < k2 := by omega
                   by_cases z4 : k2 ≤ 3
                   · have HE : RowKit.Hid (litLen (bytesOf s) = m + (2 + k2)) := by
                      show _ = _
                      rw [HS.out, exp_yes (by rw [L_d1.out]; exact g1) (.inl ⟨by rw [L_d2.out]; exact g2, rfl⟩) H_k2.out, if_neg z2, Nat.min_eq_left z4]
                     clear HS z2
                     have hb : m + 2 + k2 ≤ s.size := by
                      have h9 := litRun_le ((bytesOf s).drop (m + 2))
                      rw [H_k2.out, List.length_drop, HL.out] at h9
                      omega
                     go_wp2
                     go_ret
                     exact ⟨by rw [HE.out]; exact congrArg (fun v => Ending.returned (Value.int IntKind.i64 v)) (by omega), rfl⟩
                   · have z5 : 3 < k2 := by omega
                     have HE : RowKit.Hid (litLen (bytesOf s) = m + (2 + 3)) := by
                      show _ = _
                      rw [HS.out, exp_yes (by rw [L_d1.out]; exact g1) (.inl ⟨by rw [L_d2.out]; exact g2, rfl⟩) H_k2.out, if_neg z2, Nat.min_eq_right (by omega)]
                     clear HS z2
                     have hb : m + 2 + k2 ≤ s.size := by
                      have h9 := litRun_le ((bytesOf s).drop (m + 2))
                      rw [H_k2.out, List.length_drop, HL.out] at h9
                      omega
                     go_wp2
                     go_ret
                     exact ⟨by rw [HE.out]; exact congrArg (fun v => Ending.returned (Value.int IntKind.i64 v)) (by omega), rfl⟩
               · have e_d2 : ((d2 : Int) == 45) = false := by rw [beq_eq_false_iff_ne]; omega
                 obtain ⟨k2, h_k2⟩ : ∃ k, litRun ((bytesOf s).drop (m + 1)) = k := ⟨_, rfl⟩
                 have H_k2 := Lib.hid h_k2
                 clear h_k2
                 go_wp2_with fail
                 refine (refLRun_at s hs (m + 1) (by omega) ((m : Int) + 1) (by omega) k2 H_k2.out w).mono ?_
                 rintro e w1 ⟨rfl, rfl⟩
                 by_cases z2 : k2 = 0
                 · subst z2
                   have HE : RowKit.Hid (litLen (bytesOf s) = m) := by
                    show _ = _
                    rw [HS.out, exp_yes (by rw [L_d1.out]; exact g1) (.inr ⟨by rw [L_d2.out]; exact g2, rfl⟩) H_k2.out, if_pos rfl, Nat.add_zero]
                   clear HS
                   go_wp2
                   go_ret
                   exact ⟨by rw [HE.out]; rfl, rfl⟩
                 · have z3 : 0 < k2 := by omega
                   by_cases z4 : k2 ≤ 3
                   · have HE : RowKit.Hid (litLen (bytesOf s) = m + (1 + k2)) := by
                      show _ = _
                      rw [HS.out, exp_yes (by rw [L_d1.out]; exact g1) (.inr ⟨by rw [L_d2.out]; exact g2, rfl⟩) H_k2.out, if_neg z2, Nat.min_eq_left z4]
                     clear HS z2
                     have hb : m + 1 + k2 ≤ s.size := by
                      have h9 := litRun_le ((bytesOf s).drop (m + 1))
                      rw [H_k2.out, List.length_drop, HL.out] at h9
                      omega
                     go_wp2
                     go_ret
                     exact ⟨by rw [HE.out]; exact congrArg (fun v => Ending.returned (Value.int IntKind.i64 v)) (by omega), rfl⟩
                   · have z5 : 3 < k2 := by omega
                     have HE : RowKit.Hid (litLen (bytesOf s) = m + (1 + 3)) := by
                      show _ = _
                      rw [HS.out, exp_yes (by rw [L_d1.out]; exact g1) (.inr ⟨by rw [L_d2.out]; exact g2, rfl⟩) H_k2.out, if_neg z2, Nat.min_eq_right (by omega)]
                     clear HS z2
                     have hb : m + 1 + k2 ≤ s.size := by
                      have h9 := litRun_le ((bytesOf s).drop (m + 1))
                      rw [H_k2.out, List.length_drop, HL.out] at h9
                      omega
                     go_wp2
                     go_ret
                     exact ⟨by rw [HE.out]; exact congrArg (fun v => Ending.returned (Value.int IntKind.i64 v)) (by omega), rfl⟩
             · have L_no : RowKit.Hid (lim (bytesOf s) (m + 1) ≠ 45) := by show _ ≠ _; rw [lim_past (by rw [HL.out]; omega)]; decide
               have t2 : ¬ ((m : Int) + 1 < (s.size : Int)) := by omega
               obtain ⟨k2, h_k2⟩ : ∃ k, litRun ((bytesOf s).drop (m + 1)) = k := ⟨_, rfl⟩
               have H_k2 := Lib.hid h_k2
               clear h_k2
               go_wp2_with fail
               refine (refLRun_at s hs (m + 1) (by omega) ((m : Int) + 1) (by omega) k2 H_k2.out w).mono ?_
               rintro e w1 ⟨rfl, rfl⟩
               by_cases z2 : k2 = 0
               · subst z2
                 have HE : RowKit.Hid (litLen (bytesOf s) = m) := by
                  show _ = _
                  rw [HS.out, exp_yes (by rw [L_d1.out]; exact g1) (.inr ⟨L_no.out, rfl⟩) H_k2.out, if_pos rfl, Nat.add_zero]
                 clear HS
                 go_wp2
                 go_ret
                 exact ⟨by rw [HE.out]; rfl, rfl⟩
               · have z3 : 0 < k2 := by omega
                 by_cases z4 : k2 ≤ 3
                 · have HE : RowKit.Hid (litLen (bytesOf s) = m + (1 + k2)) := by
                    show _ = _
                    rw [HS.out, exp_yes (by rw [L_d1.out]; exact g1) (.inr ⟨L_no.out, rfl⟩) H_k2.out, if_neg z2, Nat.min_eq_left z4]
                   clear HS z2
                   have hb : m + 1 + k2 ≤ s.size := by
                    have h9 := litRun_le ((bytesOf s).drop (m + 1))
                    rw [H_k2.out, List.length_drop, HL.out] at h9
                    omega
                   go_wp2
                   go_ret
                   exact ⟨by rw [HE.out]; exact congrArg (fun v => Ending.returned (Value.int IntKind.i64 v)) (by omega), rfl⟩
                 · have z5 : 3 < k2 := by omega
                   have HE : RowKit.Hid (litLen (bytesOf s) = m + (1 + 3)) := by
                    show _ = _
                    rw [HS.out, exp_yes (by rw [L_d1.out]; exact g1) (.inr ⟨L_no.out, rfl⟩) H_k2.out, if_neg z2, Nat.min_eq_right (by omega)]
                   clear HS z2
                   have hb : m + 1 + k2 ≤ s.size := by
                    have h9 := litRun_le ((bytesOf s).drop (m + 1))
                    rw [H_k2.out, List.length_drop, HL.out] at h9
                    omega
                   go_wp2
                   go_ret
                   exact ⟨by rw [HE.out]; exact congrArg (fun v => Ending.returned (Value.int IntKind.i64 v)) (by omega), rfl⟩
           · have e_d1 : ((d1 : Int) == 101) = false := by rw [beq_eq_false_iff_ne]; omega
             have HE : RowKit.Hid (litLen (bytesOf s) = m) := by
              show _ = _
              rw [HS.out, exp_no (by rw [L_d1.out]; exact g1), Nat.add_zero]
             clear HS
             go_wp2
             go_ret
             exact ⟨by rw [HE.out]; rfl, rfl⟩
         · have t1 : ¬ ((m : Int) < (s.size : Int)) := by omega
           have HE : RowKit.Hid (litLen (bytesOf s) = m) := by
            show _ = _
            rw [HS.out, (len_nil (by rw [HL.out]; omega)).2, Nat.add_zero]
           clear HS
           go_wp2
           go_ret
           exact ⟨by rw [HE.out]; rfl, rfl⟩
     · have e_d : ((d : Int) == 46) = false := by rw [beq_eq_false_iff_ne]; omega
       have HS : RowKit.Hid (litLen (bytesOf s) = n + litExp ((bytesOf s).drop n)) := len_sum HN0.out h0 (by rw [point_no (by rw [L_d.out]; exact g), Nat.add_zero])
       obtain ⟨m, hm⟩ : ∃ m, m = n := ⟨_, rfl⟩
       rw [← hm] at HS
       subst hm
       clear HN HN0
       by_cases g1 : d = 101
       · have e_d : ((d : Int) == 101) = true := by rw [beq_iff_eq]; omega
         by_cases t2 : m + 1 < s.size
         · obtain ⟨d2, hd_d2⟩ : ∃ d2, (s[m + 1]'t2).toNat = d2 := ⟨_, rfl⟩
           have L_d2 : RowKit.Hid (lim (bytesOf s) (m + 1) = d2) := by show _ = _; rw [← byte_at s (m + 1) t2, hd_d2]
           by_cases g2 : d2 = 45
           · have e_d2 : ((d2 : Int) == 45) = true := by rw [beq_iff_eq]; omega
             obtain ⟨k2, h_k2⟩ : ∃ k, litRun ((bytesOf s).drop (m + 2)) = k := ⟨_, rfl⟩
             have H_k2 := Lib.hid h_k2
             clear h_k2
             go_wp2_with fail
             refine (refLRun_at s hs (m + 2) (by omega) ((m : Int) + 1 + 1) (by omega) k2 H_k2.out w).mono ?_
             rintro e w1 ⟨rfl, rfl⟩
             by_cases z2 : k2 = 0
             · subst z2
               have HE : RowKit.Hid (litLen (bytesOf s) = m) := by
                show _ = _
                rw [HS.out, exp_yes (by rw [L_d.out]; exact g1) (.inl ⟨by rw [L_d2.out]; exact g2, rfl⟩) H_k2.out, if_pos rfl, Nat.add_zero]
               clear HS
               go_wp2
               go_ret
               exact ⟨by rw [HE.out]; rfl, rfl⟩
             · have z3 : 0 < k2 := by omega
               by_cases z4 : k2 ≤ 3
               · have HE : RowKit.Hid (litLen (bytesOf s) = m + (2 + k2)) := by
                  show _ = _
                  rw [HS.out, exp_yes (by rw [L_d.out]; exact g1) (.inl ⟨by rw [L_d2.out]; exact g2, rfl⟩) H_k2.out, if_neg z2, Nat.min_eq_left z4]
                 clear HS z2
                 have hb : m + 2 + k2 ≤ s.size := by
                  have h9 := litRun_le ((bytesOf s).drop (m + 2))
                  rw [H_k2.out, List.length_drop, HL.out] at h9
                  omega
                 go_wp2
                 go_ret
                 exact ⟨by rw [HE.out]; exact congrArg (fun v => Ending.returned (Value.int IntKind.i64 v)) (by omega), rfl⟩
               · have z5 : 3 < k2 := by omega
                 have HE : RowKit.Hid (litLen (bytesOf s) = m + (2 + 3)) := by
                  show _ = _
                  rw [HS.out, exp_yes (by rw [L_d.out]; exact g1) (.inl ⟨by rw [L_d2.out]; exact g2, rfl⟩) H_k2.out, if_neg z2, Nat.min_eq_right (by omega)]
                 clear HS z2
                 have hb : m + 2 + k2 ≤ s.size := by
                  have h9 := litRun_le ((bytesOf s).drop (m + 2))
                  rw [H_k2.out, List.length_drop, HL.out] at h9
                  omega
                 go_wp2
                 go_ret
                 exact ⟨by rw [HE.out]; exact congrArg (fun v => Ending.returned (Value.int IntKind.i64 v)) (by omega), rfl⟩
           · have e_d2 : ((d2 : Int) == 45) = false := by rw [beq_eq_false_iff_ne]; omega
             obtain ⟨k2, h_k2⟩ : ∃ k, litRun ((bytesOf s).drop (m + 1)) = k := ⟨_, rfl⟩
             have H_k2 := Lib.hid h_k2
             clear h_k2
             go_wp2_with fail
             refine (refLRun_at s hs (m + 1) (by omega) ((m : Int) + 1) (by omega) k2 H_k2.out w).mono ?_
             rintro e w1 ⟨rfl, rfl⟩
             by_cases z2 : k2 = 0
             · subst z2
               have HE : RowKit.Hid (litLen (bytesOf s) = m) := by
                show _ = _
                rw [HS.out, exp_yes (by rw [L_d.out]; exact g1) (.inr ⟨by rw [L_d2.out]; exact g2, rfl⟩) H_k2.out, if_pos rfl, Nat.add_zero]
               clear HS
               go_wp2
               go_ret
               exact ⟨by rw [HE.out]; rfl, rfl⟩
             · have z3 : 0 < k2 := by omega
               by_cases z4 : k2 ≤ 3
               · have HE : RowKit.Hid (litLen (bytesOf s) = m + (1 + k2)) := by
                  show _ = _
                  rw [HS.out, exp_yes (by rw [L_d.out]; exact g1) (.inr ⟨by rw [L_d2.out]; exact g2, rfl⟩) H_k2.out, if_neg z2, Nat.min_eq_left z4]
                 clear HS z2
                 have hb : m + 1 + k2 ≤ s.size := by
                  have h9 := litRun_le ((bytesOf s).drop (m + 1))
                  rw [H_k2.out, List.length_drop, HL.out] at h9
                  omega
                 go_wp2
                 go_ret
                 exact ⟨by rw [HE.out]; exact congrArg (fun v => Ending.returned (Value.int IntKind.i64 v)) (by omega), rfl⟩
               · have z5 : 3 < k2 := by omega
                 have HE : RowKit.Hid (litLen (bytesOf s) = m + (1 + 3)) := by
                  show _ = _
                  rw [HS.out, exp_yes (by rw [L_d.out]; exact g1) (.inr ⟨by rw [L_d2.out]; exact g2, rfl⟩) H_k2.out, if_neg z2, Nat.min_eq_right (by omega)]
                 clear HS z2
                 have hb : m + 1 + k2 ≤ s.size := by
                  have h9 := litRun_le ((bytesOf s).drop (m + 1))
                  rw [H_k2.out, List.length_drop, HL.out] at h9
                  omega
                 go_wp2
                 go_ret
                 exact ⟨by rw [HE.out]; exact congrArg (fun v => Ending.returned (Value.int IntKind.i64 v)) (by omega), rfl⟩
         · have L_no : RowKit.Hid (lim (bytesOf s) (m + 1) ≠ 45) := by show _ ≠ _; rw [lim_past (by rw [HL.out]; omega)]; decide
           have t2 : ¬ ((m : Int) + 1 < (s.size : Int)) := by omega
           obtain ⟨k2, h_k2⟩ : ∃ k, litRun ((bytesOf s).drop (m + 1)) = k := ⟨_, rfl⟩
           have H_k2 := Lib.hid h_k2
           clear h_k2
           go_wp2_with fail
           refine (refLRun_at s hs (m + 1) (by omega) ((m : Int) + 1) (by omega) k2 H_k2.out w).mono ?_
           rintro e w1 ⟨rfl, rfl⟩
           by_cases z2 : k2 = 0
           · subst z2
             have HE : RowKit.Hid (litLen (bytesOf s) = m) := by
              show _ = _
              rw [HS.out, exp_yes (by rw [L_d.out]; exact g1) (.inr ⟨L_no.out, rfl⟩) H_k2.out, if_pos rfl, Nat.add_zero]
             clear HS
             go_wp2
             go_ret
             exact ⟨by rw [HE.out]; rfl, rfl⟩
           · have z3 : 0 < k2 := by omega
             by_cases z4 : k2 ≤ 3
             · have HE : RowKit.Hid (litLen (bytesOf s) = m + (1 + k2)) := by
                show _ = _
                rw [HS.out, exp_yes (by rw [L_d.out]; exact g1) (.inr ⟨L_no.out, rfl⟩) H_k2.out, if_neg z2, Nat.min_eq_left z4]
               clear HS z2
               have hb : m + 1 + k2 ≤ s.size := by
                have h9 := litRun_le ((bytesOf s).drop (m + 1))
                rw [H_k2.out, List.length_drop, HL.out] at h9
                omega
               go_wp2
               go_ret
               exact ⟨by rw [HE.out]; exact congrArg (fun v => Ending.returned (Value.int IntKind.i64 v)) (by omega), rfl⟩
             · have z5 : 3 < k2 := by omega
               have HE : RowKit.Hid (litLen (bytesOf s) = m + (1 + 3)) := by
                show _ = _
                rw [HS.out, exp_yes (by rw [L_d.out]; exact g1) (.inr ⟨L_no.out, rfl⟩) H_k2.out, if_neg z2, Nat.min_eq_right (by omega)]
               clear HS z2
               have hb : m + 1 + k2 ≤ s.size := by
                have h9 := litRun_le ((bytesOf s).drop (m + 1))
                rw [H_k2.out, List.length_drop, HL.out] at h9
                omega
               go_wp2
               go_ret
               exact ⟨by rw [HE.out]; exact congrArg (fun v => Ending.returned (Value.int IntKind.i64 v)) (by omega), rfl⟩
       · have e_d : ((d : Int) == 101) = false := by rw [beq_eq_false_iff_ne]; omega
         have HE : RowKit.Hid (litLen (bytesOf s) = m) := by
          show _ = _
          rw [HS.out, exp_no (by rw [L_d.out]; exact g1), Nat.add_zero]
         clear HS
         go_wp2
         go_ret
         exact ⟨by rw [HE.out]; rfl, rfl⟩
   · have t0 : ¬ ((n : Int) < (s.size : Int)) := by omega
     have HS : RowKit.Hid (litLen (bytesOf s) = n + litExp ((bytesOf s).drop n)) := len_sum HN0.out h0 (by rw [(len_nil (by rw [HL.out]; omega)).1, Nat.add_zero])
     obtain ⟨m, hm⟩ : ∃ m, m = n := ⟨_, rfl⟩
     rw [← hm] at HS
     subst hm
     clear HN HN0
     have HE : RowKit.Hid (litLen (bytesOf s) = m) := by
      show _ = _
      rw [HS.out, (len_nil (by rw [HL.out]; omega)).2, Nat.add_zero]
     clear HS
     go_wp2
     go_ret
     exact ⟨by rw [HE.out]; rfl, rfl⟩
set_option maxHeartbeats 1000000 in
set_option maxRecDepth 100000 in
theorem refLGood_c (s : ByteArray) (hs : s.size ≤ 9223372036854775807) (w : World) (v : Bool) (hv : litGood (bytesOf s) = v) :
 Calls Tryz.prog 66 #[.string s] w fun e w' => e = .returned (.bool v) ∧ w = w' := by
 have hl := length_bytesOf s
 have HL := Lib.hid hl
 have Hv := Lib.hid hv
 clear hl hv
 by_cases h1 : 1 ≤ s.size
 · by_cases h2 : s.size ≤ 400
   · obtain ⟨n, hn⟩ : ∃ n, litLen (bytesOf s) = n := ⟨_, rfl⟩
     have HC := refLLen_c s hs w
     rw [hn] at HC
     have HC := Lib.hid HC
     by_cases h3 : n = s.size
     · have h5 : ((n : Int) == (s.size : Int)) = true := by rw [beq_iff_eq]; omega
       have HV : RowKit.Hid (true = v) := by
        show _ = _
        rw [← Hv.out]; unfold litGood; rw [HL.out]; rw [decide_eq_true h1, decide_eq_true h2, decide_eq_true (by omega)]; rfl
       clear Hv
       clear hn
       go_enter Tryz.func66, Tryz.ntmps66
       go_wp2_with fail
       refine HC.out.mono ?_
       rintro e w1 ⟨rfl, rfl⟩
       go_wp2
       go_ret
       exact ⟨by rw [← HV.out]; rfl, rfl⟩
     · have h5 : ((n : Int) == (s.size : Int)) = false := by rw [beq_eq_false_iff_ne]; omega
       have HV : RowKit.Hid (false = v) := by
        show _ = _
        rw [← Hv.out]; unfold litGood; rw [HL.out]; rw [decide_eq_true h1, decide_eq_true h2, decide_eq_false (by omega)]; rfl
       clear Hv
       clear hn
       go_enter Tryz.func66, Tryz.ntmps66
       go_wp2_with fail
       refine HC.out.mono ?_
       rintro e w1 ⟨rfl, rfl⟩
       go_wp2
       go_ret
       exact ⟨by rw [← HV.out]; rfl, rfl⟩
   · have HV : RowKit.Hid (false = v) := by
      show _ = _
      rw [← Hv.out]; unfold litGood; rw [HL.out]; rw [decide_eq_true h1, decide_eq_false h2]; rfl
     clear Hv
     have h3 : ¬ ((s.size : Int) ≤ 400) := by omega
     go_enter Tryz.func66, Tryz.ntmps66
     go_wp2
     go_ret
     exact ⟨by rw [← HV.out]; rfl, rfl⟩
 · have HV : RowKit.Hid (false = v) := by
    show _ = _
    rw [← Hv.out]; unfold litGood; rw [HL.out]; rw [decide_eq_false h1]; rfl
   clear Hv
   have h2 : ¬ ((1 : Int) ≤ (s.size : Int)) := by omega
   go_enter Tryz.func66, Tryz.ntmps66
   go_wp2
   go_ret
   exact ⟨by rw [← HV.out]; rfl, rfl⟩
end Go.Proofs.YtheaepceghnkpaaGreatDoor

/- What package literal's kindAt, digitsLength, placesLength, exponentLength, Length and Good answer, as contracts over memory. Conditions: texts that can be read; the table of kinds reads as it is laid. -/
namespace Go.Proofs.YtheaepceghnkpaaGreatDoor
open Go.RowKit Limb
set_option linter.unusedVariables false
theorem kindN_big {c : Nat} (h : 102 ≤ c) : kindN c = 0 := by
 unfold kindN
 rw [if_neg (by omega), if_neg (by omega), if_neg (by omega), if_neg]
 simp [isDig]; omega
theorem kindN_dig {c : Nat} : (kindN c = 1) ↔ isDig c = true := by
 unfold kindN
 by_cases h1 : c = 45
 · subst h1; decide
 · by_cases h2 : c = 46
   · subst h2; decide
   · by_cases h3 : c = 101
     · subst h3; decide
     · rw [if_neg h1, if_neg h2, if_neg h3]
       cases isDig c <;> decide
theorem kindN_point {c : Nat} : (kindN c = 2) ↔ c = 46 := by
 unfold kindN
 by_cases h1 : c = 45
 · subst h1; decide
 · by_cases h2 : c = 46
   · subst h2; decide
   · by_cases h3 : c = 101
     · subst h3; decide
     · rw [if_neg h1, if_neg h2, if_neg h3]
       cases isDig c <;> simp [h2]
theorem kindN_mark {c : Nat} : (kindN c = 3) ↔ c = 101 := by
 unfold kindN
 by_cases h1 : c = 45
 · subst h1; decide
 · by_cases h2 : c = 46
   · subst h2; decide
   · by_cases h3 : c = 101
     · subst h3; decide
     · rw [if_neg h1, if_neg h2, if_neg h3]
       cases isDig c <;> simp [h3]
theorem kindN_minus {c : Nat} : (kindN c = 4) ↔ c = 45 := by
 unfold kindN
 by_cases h1 : c = 45
 · subst h1; decide
 · by_cases h2 : c = 46
   · subst h2; decide
   · by_cases h3 : c = 101
     · subst h3; decide
     · rw [if_neg h1, if_neg h2, if_neg h3]
       cases isDig c <;> simp [h1]
set_option maxHeartbeats 1000000 in
theorem kindAt_c (s : ByteArray) (hs : s.size ≤ 9223372036854775807) (i : Nat) (V : Int) (hV : V = i) (w : World) (T : KTab w) (v : Nat) (hv : kindN (lim (bytesOf s) i) = v) :
 Calls Tryz.prog 121 #[.string s, .int .i64 V] w fun e w' => e = .returned (.int .u8 (v : Int)) ∧ w = w' := by
 subst hV
 by_cases hlt : i < s.size
 · obtain ⟨d, hd⟩ : ∃ d, (s[i]'hlt).toNat = d := ⟨_, rfl⟩
   have hdl : lim (bytesOf s) i = d := by rw [← Limb.byte_at s i hlt, hd]
   have hd2 : d < 256 := by rw [← hd]; exact UInt8.toNat_lt _
   rw [hdl] at hv
   by_cases h1 : d < 102
   · have hc := T d h1
     rw [hv] at hc
     clear hv hdl T
     go_enter Tryz.func121, Tryz.ntmps121
     go_wp2
     go_ret
     exact ⟨rfl, rfl⟩
   · have h2 : 102 ≤ d := by omega
     rw [kindN_big h2] at hv
     subst hv
     clear hdl T h1
     go_enter Tryz.func121, Tryz.ntmps121
     go_wp2
     go_ret
     exact ⟨rfl, rfl⟩
 · have h2 : s.size ≤ i := by omega
   have h0 : lim (bytesOf s) i = 0 := lim_past (by rw [length_bytesOf]; exact h2)
   rw [h0] at hv
   obtain rfl : v = 0 := by rw [← hv]; rfl
   clear hv h0 T hlt
   go_enter Tryz.func121, Tryz.ntmps121
   go_wp2
   go_ret
   exact ⟨rfl, rfl⟩
theorem lim_dig {l : List Nat} {k : Nat} (h : isDig (lim l k) = true) : k < l.length := by
 rcases Nat.lt_or_ge k l.length with h2 | h2
 · exact h2
 · rw [lim_past h2] at h; exact absurd h (by decide)
set_option maxHeartbeats 1000000 in
theorem digitsLen_c (s : ByteArray) (hs : s.size ≤ 9223372036854775807) (m : Nat) (V : Int) (hV : V = m) (hm : m ≤ 9223372036854775807) (w : World) (T : KTab w) (n : Nat) (hn : min (litRun (bytesOf s)) m = n) :
 Calls Tryz.prog 111 #[.string s, .int .i64 V] w fun e w' => e = .returned (.int .i64 (n : Int)) ∧ w = w' := by
 subst hV
 have HT := Lib.hid T
 have Hn := Lib.hid hn
 clear T hn
 go_enter Tryz.func111, Tryz.ntmps111
 go_wp2
 go_loopw [5] (fun i wr => ∃ k : Nat, i = .int .i64 (k : Int) ∧ k ≤ m ∧ RowKit.Hid (k ≤ litRun (bytesOf s)) ∧ w = wr) (fun i _ => m - (intOf i).toNat)
 case atStart => exact ⟨0, rfl, Nat.zero_le _, Nat.zero_le _, rfl⟩
 case round =>
  obtain ⟨k, rfl, hk, HK, rfl⟩ := hrel
  by_cases hlt : k < m
  · cases hd : isDig (lim (bytesOf s) k) with
    | true =>
     have HK2 : RowKit.Hid (k + 1 ≤ litRun (bytesOf s)) := run_step HK.out (lim_dig hd) hd
     have HC := Lib.hid (kindAt_c s hs k k rfl w HT.out 1 (kindN_dig.2 hd))
     clear hd HK
     go_wp2_with fail
     refine HC.out.mono ?_
     rintro e w1 ⟨rfl, rfl⟩
     go_wp2
     go_roundw
     case rel => exact ⟨k + 1, by go_num, by omega, HK2, by first | rfl | trivial⟩
     case measure => simp [intOf]; omega
    | false =>
     have HE : RowKit.Hid (n = k) := by
      show _ = _
      rw [← Hn.out, run_stop HK.out hd]
      omega
     obtain ⟨v, hv⟩ : ∃ v, kindN (lim (bytesOf s) k) = v := ⟨_, rfl⟩
     have hv1 : ((v : Int) == 1) = false := by
      rw [beq_eq_false_iff_ne]
      intro h
      have h2 : v = 1 := by omega
      rw [h2] at hv
      rw [kindN_dig.1 hv] at hd; cases hd
     have HC := Lib.hid (kindAt_c s hs k k rfl w HT.out v hv)
     clear hd HK hv
     go_wp2_with fail
     refine HC.out.mono ?_
     rintro e w1 ⟨rfl, rfl⟩
     go_wp2
     go_ret
     exact ⟨by rw [HE.out]; rfl, rfl⟩
  · have HE : RowKit.Hid (n = m) := by
     show _ = _
     have := HK.out
     rw [← Hn.out]; omega
    obtain rfl : k = m := by omega
    clear HK hlt
    go_wp2
    go_ret
    exact ⟨by rw [HE.out]; rfl, rfl⟩
theorem tail_of (s : ByteArray) (k : Nat) : bytesOf (s.extract k s.size) = (bytesOf s).drop k := by
 rw [bytesOf_extract]
 refine List.take_of_length_le ?_
 rw [List.length_drop, length_bytesOf]
 exact Nat.le_refl _
theorem tail_size (s : ByteArray) {k : Nat} (h : k ≤ s.size) : (s.extract k s.size).size = s.size - k := by
 rw [← length_bytesOf, tail_of, List.length_drop, length_bytesOf]
theorem ne_kind {v c : Nat} (h : v ≠ c) : ((v : Int) == (c : Int)) = false := by rw [beq_eq_false_iff_ne]; omega
theorem size_of_lim {s : ByteArray} {k v : Nat} (h : lim (bytesOf s) k = v) (hv : v ≠ 0) : k < s.size := by
 rcases Nat.lt_or_ge k s.size with h2 | h2
 · exact h2
 · rw [lim_past (by rw [length_bytesOf]; exact h2)] at h; exact absurd h.symm hv
set_option maxHeartbeats 1000000 in
theorem placesLen_c (s : ByteArray) (hs : s.size ≤ 9223372036854775807) (w : World) (T : KTab w) (n : Nat) (hn : litPoint (bytesOf s) = n) :
 Calls Tryz.prog 112 #[.string s] w fun e w' => e = .returned (.int .i64 (n : Int)) ∧ w = w' := by
 by_cases h : lim (bytesOf s) 0 = 46
 · have h1 : 1 ≤ s.size := size_of_lim h (by decide)
   obtain ⟨S, hS⟩ : ∃ S, s.extract 1 s.size = S := ⟨_, rfl⟩
   have hb : bytesOf S = (bytesOf s).drop 1 := by rw [← hS]; exact tail_of s 1
   have hz : S.size = s.size - 1 := by rw [← hS]; exact tail_size s h1
   have HK := Lib.hid (kindAt_c s hs 0 0 rfl w T 2 (kindN_point.2 h))
   obtain ⟨k, hk⟩ : ∃ k, litRun (bytesOf S) = k := ⟨_, rfl⟩
   have hkl : k ≤ S.size := by have := litRun_le (bytesOf S); rw [hk, length_bytesOf] at this; exact this
   have HC := Lib.hid (digitsLen_c S (by omega) s.size _ rfl hs w T k (by rw [hk]; omega))
   by_cases k0 : k = 0
   · obtain rfl : n = 0 := by rw [← hn]; unfold litPoint; rw [← hb, hk]; exact if_neg fun h2 => h2.2 k0
     subst k0
     clear hn hb hk h
     go_enter Tryz.func112, Tryz.ntmps112
     go_wp2_with fail
     refine HK.out.mono ?_
     rintro e w1 ⟨rfl, rfl⟩
     go_wp2_with fail
     refine HC.out.mono ?_
     rintro e w1 ⟨rfl, rfl⟩
     go_wp2
     go_ret
     exact ⟨rfl, rfl⟩
   · obtain rfl : n = 1 + k := by rw [← hn]; unfold litPoint; rw [← hb, hk]; exact if_pos ⟨h, k0⟩
     have k1 : ((k : Int) == 0) = false := ne_kind k0
     clear hn hb hk h
     go_enter Tryz.func112, Tryz.ntmps112
     go_wp2_with fail
     refine HK.out.mono ?_
     rintro e w1 ⟨rfl, rfl⟩
     go_wp2_with fail
     refine HC.out.mono ?_
     rintro e w1 ⟨rfl, rfl⟩
     go_wp2
     go_ret
     exact ⟨congrArg (fun v => Ending.returned (Value.int IntKind.i64 v)) (by omega), rfl⟩
 · obtain ⟨v, hv⟩ : ∃ v, kindN (lim (bytesOf s) 0) = v := ⟨_, rfl⟩
   have hv1 : ((v : Int) == 2) = false := ne_kind (c := 2) fun h2 => h (kindN_point.1 (hv.trans h2))
   have HK := Lib.hid (kindAt_c s hs 0 0 rfl w T v hv)
   obtain rfl : n = 0 := by rw [← hn]; exact litPoint_none h
   clear hn hv h
   go_enter Tryz.func112, Tryz.ntmps112
   go_wp2_with fail
   refine HK.out.mono ?_
   rintro e w1 ⟨rfl, rfl⟩
   go_wp2
   go_ret
   exact ⟨rfl, rfl⟩
set_option maxHeartbeats 1000000 in
theorem exponentLen_c (s : ByteArray) (hs : s.size ≤ 9223372036854775807) (w : World) (T : KTab w) (n : Nat) (hn : litExp (bytesOf s) = n) :
 Calls Tryz.prog 113 #[.string s] w fun e w' => e = .returned (.int .i64 (n : Int)) ∧ w = w' := by
 by_cases h : lim (bytesOf s) 0 = 101
 · have h1 : 1 ≤ s.size := size_of_lim h (by decide)
   have HK := Lib.hid (kindAt_c s hs 0 0 rfl w T 3 (kindN_mark.2 h))
   have ha : ∃ a, litAt (bytesOf s) = a ∧ ((lim (bytesOf s) 1 = 45 ∧ a = 2) ∨ (lim (bytesOf s) 1 ≠ 45 ∧ a = 1)) := by
    by_cases h45 : lim (bytesOf s) 1 = 45
    · exact ⟨2, if_pos h45, .inl ⟨h45, rfl⟩⟩
    · exact ⟨1, if_neg h45, .inr ⟨h45, rfl⟩⟩
   obtain ⟨a, ha, hab⟩ := ha
   have has : a ≤ s.size := by
    rcases hab with ⟨h2, rfl⟩ | ⟨_, rfl⟩
    · exact size_of_lim h2 (by decide)
    · exact h1
   obtain ⟨S, hS⟩ : ∃ S, s.extract a s.size = S := ⟨_, rfl⟩
   have hb : bytesOf S = (bytesOf s).drop a := by rw [← hS]; exact tail_of s a
   have hz : S.size = s.size - a := by rw [← hS]; exact tail_size s has
   obtain ⟨k, hk⟩ : ∃ k, min (litRun (bytesOf S)) 3 = k := ⟨_, rfl⟩
   have hk3 : k ≤ 3 := by omega
   have HC := Lib.hid (digitsLen_c S (by omega) 3 3 rfl (by decide) w T k hk)
   have HE : RowKit.Hid (n = if k = 0 then 0 else a + k) := by
    show _ = _
    rw [← hn, ← hk]
    unfold litExp
    rw [ha, ← hb]
    by_cases k0 : litRun (bytesOf S) = 0
    · rw [if_neg (fun h2 => h2.2 k0), if_pos (by omega)]
    · rw [if_pos ⟨h, k0⟩, if_neg (by omega)]
   clear hn hb hk h ha hz
   rcases hab with ⟨h45, rfl⟩ | ⟨h45, rfl⟩
   · have HM := Lib.hid (kindAt_c s hs 1 1 rfl w T 4 (kindN_minus.2 h45))
     clear h45
     by_cases k0 : k = 0
     · subst k0
       obtain rfl : n = 0 := HE.out
       go_enter Tryz.func113, Tryz.ntmps113
       go_wp2_with fail
       refine HK.out.mono ?_
       rintro e w1 ⟨rfl, rfl⟩
       go_wp2_with fail
       refine HM.out.mono ?_
       rintro e w1 ⟨rfl, rfl⟩
       go_wp2_with fail
       refine HC.out.mono ?_
       rintro e w1 ⟨rfl, rfl⟩
       go_wp2
       go_ret
       exact ⟨rfl, rfl⟩
     · obtain rfl : n = 2 + k := HE.out.trans (if_neg k0)
       have k1 : ((k : Int) == 0) = false := ne_kind k0
       go_enter Tryz.func113, Tryz.ntmps113
       go_wp2_with fail
       refine HK.out.mono ?_
       rintro e w1 ⟨rfl, rfl⟩
       go_wp2_with fail
       refine HM.out.mono ?_
       rintro e w1 ⟨rfl, rfl⟩
       go_wp2_with fail
       refine HC.out.mono ?_
       rintro e w1 ⟨rfl, rfl⟩
       go_wp2
       go_ret
       exact ⟨congrArg (fun v => Ending.returned (Value.int IntKind.i64 v)) (by omega), rfl⟩
   · obtain ⟨v, hv⟩ : ∃ v, kindN (lim (bytesOf s) 1) = v := ⟨_, rfl⟩
     have hv1 : ((v : Int) == 4) = false := ne_kind (c := 4) fun h2 => h45 (kindN_minus.1 (hv.trans h2))
     have HM := Lib.hid (kindAt_c s hs 1 1 rfl w T v hv)
     clear h45 hv
     by_cases k0 : k = 0
     · subst k0
       obtain rfl : n = 0 := HE.out
       go_enter Tryz.func113, Tryz.ntmps113
       go_wp2_with fail
       refine HK.out.mono ?_
       rintro e w1 ⟨rfl, rfl⟩
       go_wp2_with fail
       refine HM.out.mono ?_
       rintro e w1 ⟨rfl, rfl⟩
       go_wp2_with fail
       refine HC.out.mono ?_
       rintro e w1 ⟨rfl, rfl⟩
       go_wp2
       go_ret
       exact ⟨rfl, rfl⟩
     · obtain rfl : n = 1 + k := HE.out.trans (if_neg k0)
       have k1 : ((k : Int) == 0) = false := ne_kind k0
       go_enter Tryz.func113, Tryz.ntmps113
       go_wp2_with fail
       refine HK.out.mono ?_
       rintro e w1 ⟨rfl, rfl⟩
       go_wp2_with fail
       refine HM.out.mono ?_
       rintro e w1 ⟨rfl, rfl⟩
       go_wp2_with fail
       refine HC.out.mono ?_
       rintro e w1 ⟨rfl, rfl⟩
       go_wp2
       go_ret
       exact ⟨congrArg (fun v => Ending.returned (Value.int IntKind.i64 v)) (by omega), rfl⟩
 · obtain ⟨v, hv⟩ : ∃ v, kindN (lim (bytesOf s) 0) = v := ⟨_, rfl⟩
   have hv1 : ((v : Int) == 3) = false := ne_kind (c := 3) fun h2 => h (kindN_mark.1 (hv.trans h2))
   have HK := Lib.hid (kindAt_c s hs 0 0 rfl w T v hv)
   obtain rfl : n = 0 := by rw [← hn]; exact litExp_none h
   clear hn hv h
   go_enter Tryz.func113, Tryz.ntmps113
   go_wp2_with fail
   refine HK.out.mono ?_
   rintro e w1 ⟨rfl, rfl⟩
   go_wp2
   go_ret
   exact ⟨rfl, rfl⟩
set_option maxHeartbeats 1000000 in
theorem litLen_c (s : ByteArray) (hs : s.size ≤ 9223372036854775807) (w : World) (T : KTab w) (n : Nat) (hn : litLen (bytesOf s) = n) :
 Calls Tryz.prog 102 #[.string s] w fun e w' => e = .returned (.int .i64 (n : Int)) ∧ w = w' := by
 obtain ⟨a, ha⟩ : ∃ a, litRun (bytesOf s) = a := ⟨_, rfl⟩
 have has : a ≤ s.size := by have := litRun_le (bytesOf s); rw [ha, length_bytesOf] at this; exact this
 have HC := Lib.hid (digitsLen_c s hs s.size _ rfl hs w T a (by rw [ha]; omega))
 by_cases a0 : a = 0
 · subst a0
   obtain rfl : n = 0 := by rw [← hn]; exact if_pos ha
   clear hn ha
   go_enter Tryz.func102, Tryz.ntmps102
   go_wp2_with fail
   refine HC.out.mono ?_
   rintro e w1 ⟨rfl, rfl⟩
   go_wp2
   go_ret
   exact ⟨rfl, rfl⟩
 · have a1 : ((a : Int) == 0) = false := ne_kind a0
   obtain ⟨S, hS⟩ : ∃ S, s.extract a s.size = S := ⟨_, rfl⟩
   have hb : bytesOf S = (bytesOf s).drop a := by rw [← hS]; exact tail_of s a
   have hz : S.size = s.size - a := by rw [← hS]; exact tail_size s has
   obtain ⟨p, hp⟩ : ∃ p, litPoint (bytesOf S) = p := ⟨_, rfl⟩
   have hpl : p ≤ S.size := by
    obtain ⟨_, _, _, h3⟩ := point_parts (bytesOf S)
    rw [hp, length_bytesOf] at h3; exact h3
   have HP := Lib.hid (placesLen_c S (by omega) w T p hp)
   obtain ⟨b, hb2⟩ : ∃ b, a + p = b := ⟨_, rfl⟩
   have hbs : b ≤ s.size := by omega
   obtain ⟨S2, hS2⟩ : ∃ S2, s.extract b s.size = S2 := ⟨_, rfl⟩
   have hbb : bytesOf S2 = (bytesOf s).drop b := by rw [← hS2]; exact tail_of s b
   have hz2 : S2.size = s.size - b := by rw [← hS2]; exact tail_size s hbs
   obtain ⟨x, hx⟩ : ∃ x, litExp (bytesOf S2) = x := ⟨_, rfl⟩
   have hxl : x ≤ S2.size := by
    obtain ⟨_, _, _, h3⟩ := exp_parts (bytesOf S2)
    rw [hx, length_bytesOf] at h3; exact h3
   have HX := Lib.hid (exponentLen_c S2 (by omega) w T x hx)
   obtain rfl : n = b + x := by
    rw [← hn]
    unfold litLen
    rw [ha, if_neg a0, ← hb, hp, hb2, ← hbb, hx]
   have eb : (a : Int) + (p : Int) = (b : Int) := by omega
   clear hn ha hb hp hbb hx hb2
   go_enter Tryz.func102, Tryz.ntmps102
   go_wp2_with fail
   refine HC.out.mono ?_
   rintro e w1 ⟨rfl, rfl⟩
   go_wp2_with fail
   refine HP.out.mono ?_
   rintro e w1 ⟨rfl, rfl⟩
   go_wp2_with fail
   refine HX.out.mono ?_
   rintro e w1 ⟨rfl, rfl⟩
   go_wp2
   go_ret
   exact ⟨congrArg (fun v => Ending.returned (Value.int IntKind.i64 v)) (by omega), rfl⟩
end Go.Proofs.YtheaepceghnkpaaGreatDoor

/- Values of many cells: a block that holds such a value, whole or as a part; what a load finds, what a store leaves. Of any program; no condition. -/
namespace Go.Proofs.YtheaepceghnkpaaGreatDoor
open Go.RowKit Limb
set_option linter.unusedVariables false
def RowA (w : World) (g : Nat) (T : TypeId) (V : Array Value) : Prop := w.heap[g]? = some (.cells V T (0, 0))
def InV (w : World) (g o : Nat) (V : Array Value) : Prop := ∀ j v, V[j]? = some v → w.cell? ⟨g, o + j, none⟩ = some v
section
variable {w w' : World} {g o : Nat} {T : TypeId} {V V' : Array Value}
theorem RowA.lt (h : RowA w g T V) : g < w.heap.size := by
 rcases Nat.lt_or_ge g w.heap.size with hlt | hge
 · exact hlt
 · unfold RowA at h; rw [Array.getElem?_eq_none hge] at h; cases h
theorem RowA.below (h : RowA w g T V) (hb : Below w.heap.size w w') : RowA w' g T V := (hb.block g h.lt).trans h
theorem RowA.drew (h : RowA w g T V) : RowA w.drew g T V := h
theorem RowA.cell (h : RowA w g T V) {k : Nat} {v : Value} (hk : V[k]? = some v) : w.cell? ⟨g, k, none⟩ = some v := by
 unfold RowA at h
 simp only [World.cell?, h]
 exact hk
theorem RowA.free (h : RowA w g T V) (k : Nat) : w.frozen? ⟨g, k, none⟩ = false := by unfold RowA at h; simp [World.frozen?, h]
theorem RowA.set (h : RowA w g T V) (k : Nat) (v : Value) : RowA (w.setCell ⟨g, k, none⟩ v) g T (V.setIfInBounds k v) := by
 unfold RowA at h ⊢
 simp [World.setCell, Array.getElem?_modify, h]
theorem RowA.far (h : RowA w g T V) {g' : Nat} (hne : g' ≠ g) (k : Nat) (v : Value) : RowA (w.setCell ⟨g', k, none⟩ v) g T V := by
 unfold RowA at h ⊢
 simp only [World.setCell, Array.getElem?_modify]
 rw [if_neg hne]
 exact h
theorem RowA.fill (h : RowA w g T V) : RowA (w.setRow g V') g T V' := setRow_heap w g V V' T (0, 0) h
theorem RowA.farRow (h : RowA w g T V) {g' : Nat} (hne : g' ≠ g) : RowA (w.setRow g' V') g T V := by
 unfold RowA at h ⊢
 rw [setRow_other w g' g V' (Ne.symm hne)]
 exact h
theorem RowA.inV (h : RowA w g T V) : InV w g 0 V := fun j v hv => by rw [Nat.zero_add]; exact h.cell hv
theorem RowA.part (h : RowA w g T V) (hp : ∀ j v, V'[j]? = some v → V[o + j]? = some v) : InV w g o V' := fun j v hv => h.cell (hp j v hv)
theorem InV.below (h : InV w g o V) (hg : g < w.heap.size) (hb : Below w.heap.size w w') : InV w' g o V := fun j v hv => (hb.cell (p := ⟨g, o + j, none⟩) hg).trans (h j v hv)
end
theorem rowA_new (w : World) (T : TypeId) (V : Array Value) : RowA (w.alloc (.cells V T)) w.heap.size T V := heap_alloc_new _ _
theorem below_fillRow {B : Nat} {w w' : World} (h : Below B w w') {g : Nat} (hg : B ≤ g) (V : Array Value) : Below B w (w'.setRow g V) :=
 h.trans ⟨rfl, rfl, rfl, by simp, fun k hk => setRow_other w' g k V (by omega)⟩
def ints (K : IntKind) (xs : List Int) : Array Value := (xs.map (Value.int K)).toArray
theorem ints_get {K : IntKind} {xs : List Int} {i : Nat} (h : i < xs.length) : (ints K xs)[i]? = some (.int K (xs.getD i 0)) := by
 simp [ints, List.getD_eq_getElem?_getD, h]
theorem ints_set {K : IntKind} {xs : List Int} (k : Nat) (x : Int) : (ints K xs).setIfInBounds k (.int K x) = ints K (xs.set k x) := by
 simp [ints, List.map_set]
theorem RowA.int {w : World} {g : Nat} {T : TypeId} {K : IntKind} {xs : List Int} (h : RowA w g T (ints K xs)) {i : Nat} (hi : i < xs.length) : w.cell? ⟨g, i, none⟩ = some (.int K (xs.getD i 0)) := h.cell (ints_get hi)
theorem RowA.setInt {w : World} {g : Nat} {T : TypeId} {K : IntKind} {xs : List Int} (h : RowA w g T (ints K xs)) (k : Nat) (x : Int) : RowA (w.setCell ⟨g, k, none⟩ (.int K x)) g T (ints K (xs.set k x)) := by
 rw [← ints_set]; exact h.set k _
section
variable {P : Program} {ops : Array Oper} {rest : List Oper} {o : Oper} {a : Act} {w : World} {K : Act → World → Prop} {Q : Exit → Act → World → Prop}
def Many (P : Program) (ty : TypeId) (n : Nat) : Prop := (P.info? ty).map (·.size) = some n ∧ ∃ d, P.underlying ty = some d ∧ d.isRow = true
theorem run_loadV {ty : TypeId} {g p : Nat} {V : Array Value} (hc : InV w g p V) (hT : Many P ty V.size) : (Instr.loadAt ty (.pointer (some ⟨g, p, none⟩))).run P w = .ok (.agg V) w := by
 obtain ⟨h1, d, h2, h3⟩ := hT
 have := run_loadAt_mid (P := P) w g p ty V.toList d (fun j v hv => hc j v (by simpa using hv)) h2 h3 (by simpa using h1)
 simpa using this
theorem wp_loadV (ty : TypeId) (x : Operand) (ho : o.op = .load ty x) (g p : Nat) (hx : a.eval x = .pointer (some ⟨g, p, none⟩)) (V : Array Value) (hc : Hid (InV w g p V)) (hT : Hid (Many P ty V.size))
 (h : K (a.put o.dst (.agg V)) w) : o.wp P a w K Q := by
 unfold Oper.wp execOp
 simp only [ho, hx, run_loadV hc.out hT.out, Sem.run_bind, Sem.run_pure, Result.andThen_ok]
 exact h
theorem wpList_loadV (hg : Region.wanted o (yielded ops a.tmps) = true) (ty : TypeId) (x : Operand) (ho : o.op = .load ty x) (g p : Nat) (hx : a.eval x = .pointer (some ⟨g, p, none⟩)) (V : Array Value) (hc : Hid (InV w g p V)) (hT : Hid (Many P ty V.size))
 (h : wpList P ops Q rest (a.put o.dst (.agg V)) w) : wpList P ops Q (o :: rest) a w :=
 BigFrame.wpList_want hg fun _ hK => wp_loadV ty x ho g p hx V hc hT (hK _ _ h)
theorem wp_buildV (ty : TypeId) (parts : Array (Nat × Operand)) (ho : o.op = .build ty parts) (ps : List (Nat × Value)) (hp : parts.toList.map (fun p => (p.1, a.eval p.2)) = ps) (V : Array Value) (hr : Hid (∀ W, (Instr.build ty ps.toArray).run P W = .ok (.agg V) W))
 (h : K (a.put o.dst (.agg V)) w) : o.wp P a w K Q := by
 have e : (parts.map fun (i, x) => (i, a.eval x)) = ps.toArray := by
  rw [← hp]
  apply Array.ext'
  simp
 unfold Oper.wp execOp
 simp only [ho, e, hr.out, Sem.run_bind, Sem.run_pure, Result.andThen_ok]
 exact h
theorem wpList_buildV (hg : Region.wanted o (yielded ops a.tmps) = true) (ty : TypeId) (parts : Array (Nat × Operand)) (ho : o.op = .build ty parts) (ps : List (Nat × Value)) (hp : parts.toList.map (fun p => (p.1, a.eval p.2)) = ps) (V : Array Value) (hr : Hid (∀ W, (Instr.build ty ps.toArray).run P W = .ok (.agg V) W))
 (h : wpList P ops Q rest (a.put o.dst (.agg V)) w) : wpList P ops Q (o :: rest) a w :=
 BigFrame.wpList_want hg fun _ hK => wp_buildV ty parts ho ps hp V hr (hK _ _ h)
theorem wp_storeV (ty : TypeId) (x y : Operand) (ho : o.op = .store ty x y) (g : Nat) (hx : a.eval x = .pointer (some ⟨g, 0, none⟩)) (V : Array Value) (hy : a.eval y = .agg V) (T : TypeId) (V0 : Array Value) (hc : Hid (RowA w g T V0)) (hT : Hid (Many P ty V.size ∧ V0.size = V.size ∧ ∀ v ∈ V, v.oneCell' = true))
 (h : K (a.put o.dst undef) (w.setRow g V)) : o.wp P a w K Q :=
 wp_store_row ty x y ho g V hx hy T V0 hc.out hT.out.1.1 hT.out.2.1 (Array.all_eq_true_iff_forall_mem.2 hT.out.2.2) h
theorem wpList_storeV (hg : Region.wanted o (yielded ops a.tmps) = true) (ty : TypeId) (x y : Operand) (ho : o.op = .store ty x y) (g : Nat) (hx : a.eval x = .pointer (some ⟨g, 0, none⟩)) (V : Array Value) (hy : a.eval y = .agg V) (T : TypeId) (V0 : Array Value) (hc : Hid (RowA w g T V0)) (hT : Hid (Many P ty V.size ∧ V0.size = V.size ∧ ∀ v ∈ V, v.oneCell' = true))
 (h : wpList P ops Q rest (a.put o.dst undef) (w.setRow g V)) : wpList P ops Q (o :: rest) a w :=
 BigFrame.wpList_want hg fun _ hK => wp_storeV ty x y ho g hx V hy T V0 hc hT (hK _ _ h)
theorem wpList_storeNew (hg : Region.wanted o (yielded ops a.tmps) = true) (ty : TypeId) (x y : Operand) (ho : o.op = .store ty x y) (V V0 : Array Value) (T : TypeId) (hx : a.eval x = .pointer (some ⟨w.heap.size, 0, none⟩)) (hy : a.eval y = .agg V) (hT : Hid (Many P ty V.size ∧ V0.size = V.size ∧ ∀ v ∈ V, v.oneCell' = true))
 (h : wpList P ops Q rest (a.put o.dst undef) (w.alloc (.cells V T))) : wpList P ops Q (o :: rest) a (w.alloc (.cells V0 T)) := by
 refine wpList_storeV hg ty x y ho w.heap.size hx V hy T V0 (rowA_new w T V0) hT ?_
 rw [World.setRow_alloc_new]
 exact h
end
end Go.Proofs.YtheaepceghnkpaaGreatDoor

/- Rows of the call's own, of elements of as many cells as one likes: append of one element, what stays. Of any program; no condition. -/
namespace Go.Proofs.YtheaepceghnkpaaGreatDoor
open Go.RowKit Limb
set_option linter.unusedVariables false
def OwnR (w : World) (B : Nat) (e : TypeId) (sz : Nat) (A : Option Addr) (n c : Nat) (xs : List Value) : Prop := w.ownsRow B e sz (.slice A n c) n xs
def Elem (P : Program) (t e : TypeId) (sz : Nat) : Prop := ∃ i z, P.underlying t = some (.slice e) ∧ P.info? e = some i ∧ i.zero = some z ∧ i.size = sz ∧ z.cells.size = sz ∧ 0 < sz ∧ i.bytes ≤ 1000
theorem elem_of {P : Program} {t e : TypeId} {sz b : Nat} {v : Value} (h : P.underlying t = some (.slice e)) (hi : (P.info? e).map (fun i => (i.zero, i.size, i.bytes)) = some (some v, sz, b)) (hz : v.cells.size = sz) (h0 : 0 < sz) (hb : b ≤ 1000) : Elem P t e sz := by
 cases hq : P.info? e with
 | none => simp [hq] at hi
 | some i =>
  simp [hq] at hi
  exact ⟨i, v, h, hq, hi.1, hi.2.1, hz, h0, by omega⟩
section
variable {w w' : World} {B : Nat} {e : TypeId} {sz n c : Nat} {A : Option Addr} {xs : List Value}
theorem OwnR.nil (w : World) (B : Nat) (e : TypeId) (sz : Nat) : OwnR w B e sz none 0 0 [] := World.ownsRow_nil w B e sz
theorem OwnR.len (h : OwnR w B e sz A n c xs) : xs.length = n * sz := h.1
theorem OwnR.lt (h : OwnR w B e sz A n c xs) : ∀ k, Value.ownBlock (.slice A n c) = some k → B ≤ k ∧ k < w.heap.size := World.ownsRow.lt h
theorem shape_row {v : Value} (h : w.ownsRow B e sz v n xs) : ∃ A c, v = .slice A n c ∧ OwnR w B e sz A n c xs := by
 rcases h.2 with ⟨rfl, rfl⟩ | ⟨g, cap, cur, rfl, _⟩
 · exact ⟨none, 0, rfl, h⟩
 · exact ⟨some ⟨g, 0, none⟩, cap, rfl, h⟩
theorem OwnR.cells (h : OwnR w B e sz A n c xs) (hn : 0 < n) : ∃ g, A = some ⟨g, 0, none⟩ ∧ B ≤ g ∧ g < w.heap.size ∧ n ≤ c ∧ c ≤ maxLen ∧ ∀ j u, xs[j]? = some u → w.cell? ⟨g, j, none⟩ = some u := by
 rcases h.2 with ⟨hv, h0⟩ | ⟨g, cap, cur, hv, hB, hg, hnc, hcm, hcs, ht⟩
 · omega
 · injection hv with h1 h2 h3
   subst h1; subst h3
   refine ⟨g, rfl, hB, (Array.getElem?_eq_some_iff.1 hg).1, hnc, hcm, fun j u hu => ?_⟩
   rw [cell_of_row w g j cur e (0, 0) hg]
   rw [← ht] at hu
   have hj : j < n * sz := by
    rcases Nat.lt_or_ge j (n * sz) with h1 | h1
    · exact h1
    · rw [List.getElem?_eq_none (by rw [List.length_take]; omega)] at hu; cases hu
   rw [List.getElem?_take_of_lt hj] at hu
   simpa using hu
theorem OwnR.below (h : OwnR w B e sz A n c xs) (hb : Below w.heap.size w w') : OwnR w' B e sz A n c xs := by
 refine ⟨h.1, ?_⟩
 rcases h.2 with h1 | ⟨g, cap, cur, hv, hB, hg, r⟩
 · exact .inl h1
 · exact .inr ⟨g, cap, cur, hv, hB, (hb.block g (Array.getElem?_eq_some_iff.1 hg).1).trans hg, r⟩
theorem OwnR.mono {C : Nat} (h : OwnR w B e sz A n c xs) (hC : C ≤ B) : OwnR w C e sz A n c xs := by
 refine ⟨h.1, ?_⟩
 rcases h.2 with h1 | ⟨g, cap, cur, hv, hB, r⟩
 · exact .inl h1
 · exact .inr ⟨g, cap, cur, hv, Nat.le_trans hC hB, r⟩
theorem RowA.grown {g : Nat} {T : TypeId} {V : Array Value} {o : Option Nat} (h : RowA w g T V) (hg : w.grownBy w' o) (hne : o ≠ some g) : RowA w' g T V := (hg.block g h.lt (fun e => hne e.symm)).trans h
theorem OwnR.apart {g : Nat} {T : TypeId} {V : Array Value} (h : OwnR w B e sz A n c xs) (hr : RowA w g T V) (hg : g < B) : Value.ownBlock (.slice A n c) ≠ some g := fun e2 => by have := (h.lt g e2).1; omega
theorem below_append {C : Nat} {w0 : World} (hb : Below C w0 w) (hC : C ≤ B) (hB : B ≤ w.heap.size) (h : OwnR w B e sz A n c xs) (hg : w.grownBy w' (Value.ownBlock (.slice A n c))) : Below C w0 w' :=
 hb.grown hg (by omega) (fun k hk => by have := (h.lt k hk).1; omega)
end
section
variable {P : Program} {ops : Array Oper} {rest : List Oper} {o : Oper} {a : Act} {w : World} {K : Act → World → Prop} {Q : Exit → Act → World → Prop}
theorem wp_append_one (s x : Operand) (t : TypeId) (ho : o.op = .call { callee := .builtin .append, args := #[s, x], argTypes := #[t, t] })
 (B : Nat) (e : TypeId) (sz : Nat) (ht : Elem P t e sz) (A : Option Addr) (n c : Nat) (xs : List Value) (hs : a.eval s = .slice A n c) (hown : Hid (OwnR w B e sz A n c xs))
 (g : Nat) (hx : a.eval x = .slice (some ⟨g, 0, none⟩) 1 1) (T : TypeId) (V : Array Value) (hy : Hid (RowA w g T V ∧ V.size = sz ∧ ∀ v ∈ V, v.oneCell' = true)) (hb : Hid (n ≤ 1000000 ∧ B ≤ w.heap.size))
 (h : ∀ A2 c2 w', Hid (OwnR w' B e sz A2 (n + 1) c2 (xs ++ V.toList)) → Hid (w.grownBy w' (Value.ownBlock (.slice A n c))) → K (a.put o.dst (.slice A2 (n + 1) c2)) w') : o.wp P a w K Q := by
 obtain ⟨i, z, h1, h2, h3, h4, h5, h6, h7⟩ := ht
 obtain ⟨y1, y2, y3⟩ := hy.out
 obtain ⟨b1, b2⟩ := hb.out
 refine wp_append_own w s x t ho B e i z sz i.bytes h1 h2 h3 h4 rfl h5 h6 (.slice A n c) n xs hs hown.out ⟨g, 0, none⟩ 1 1 V.toList hx (by simp [y2]) ?_ (fun u hu => y3 u (by simpa using hu)) (by unfold maxLen; omega) ?_ b2 ?_
 · intro j u hu
   rw [Addr.add_mid, Nat.zero_add]
   exact y1.cell (by simpa using hu)
 · exact Nat.le_trans (Nat.mul_le_mul (show n + 1 ≤ 1000001 by omega) h7) (by decide)
 · intro v' w' hown' hg _
   obtain ⟨A2, c2, rfl, how⟩ := shape_row hown'
   exact h A2 c2 w' how hg
theorem wpList_append_one (hgd : o.guard = none) (s x : Operand) (t : TypeId) (ho : o.op = .call { callee := .builtin .append, args := #[s, x], argTypes := #[t, t] })
 (B : Nat) (e : TypeId) (sz : Nat) (ht : Elem P t e sz) (A : Option Addr) (n c : Nat) (xs : List Value) (hs : a.eval s = .slice A n c) (hown : Hid (OwnR w B e sz A n c xs))
 (g : Nat) (hx : a.eval x = .slice (some ⟨g, 0, none⟩) 1 1) (T : TypeId) (V : Array Value) (hy : Hid (RowA w g T V ∧ V.size = sz ∧ ∀ v ∈ V, v.oneCell' = true)) (hb : Hid (n ≤ 1000000 ∧ B ≤ w.heap.size))
 (h : ∀ A2 c2 w', Hid (OwnR w' B e sz A2 (n + 1) c2 (xs ++ V.toList)) → Hid (w.grownBy w' (Value.ownBlock (.slice A n c))) → wpList P ops Q rest (a.put o.dst (.slice A2 (n + 1) c2)) w') : wpList P ops Q (o :: rest) a w :=
 wpList_plain hgd fun _ hK => wp_append_one s x t ho B e sz ht A n c xs hs hown g hx T V hy hb fun A2 c2 w' h1 h2 => hK _ _ (h A2 c2 w' h1 h2)
end
end Go.Proofs.YtheaepceghnkpaaGreatDoor

/- Faults as values of two cells; results in a slot and a struct's cell, in two structs' cells; a store into the last block but one; == of two faults. No condition. -/
namespace Go.Proofs.YtheaepceghnkpaaGreatDoor
open Go.RowKit Limb
set_option linter.unusedVariables false
abbrev fltC (e at0 : Int) : Array Value := #[.int .i64 e, .int .i64 at0]
theorem sizeF : (Tryz.prog.info? 29).map (·.size) = some 2 := by kernel_rfl
theorem manyF (e a : Int) : Many Tryz.prog 29 (fltC e a).size := ⟨sizeF, _, Tryz.underlying29, rfl⟩
theorem fitsF (e a : Int) : Many Tryz.prog 29 (fltC e a).size ∧ (fltC 0 0).size = (fltC e a).size ∧ ∀ v ∈ fltC e a, v.oneCell' = true := ⟨manyF e a, rfl, by simp [Value.oneCell']⟩
theorem results_mixed2 {P : Program} {fn : Func} {p q : Tmp} {ty : TypeId} (h : fn.results = #[.tmp q, .cell p ty]) (tmps : Array Value) (w : World) (g : Nat) (t : TypeId) (cs : Array Value) (fr : Nat × Nat) (d : TypeDesc) (v : Value)
 (hp : tmps.getD p undef = .pointer (some ⟨g, 0, none⟩)) (hq : tmps.getD q undef = v) (hg : w.heap[g]? = some (.cells cs t fr))
 (hu : P.underlying ty = some d) (hd : (match d with | .struct _ | .array _ _ => true | _ => false) = true) (hi : (P.info? ty).map (·.size) = some cs.size) :
 (results fn tmps).run P w = .ok (.tuple #[v, .agg cs]) w := by
 have hp' : tmps[p]?.getD undef = .pointer (some ⟨g, 0, none⟩) := by simpa using hp
 have hq' : tmps[q]?.getD undef = v := by simpa using hq
 simp [results, h, hp', hq', asAddr, run_loadVar_row w g t ty cs fr d hg hu hd hi]
theorem equal_flt {e a e' a' : Int} {b : Bool} (h : (decide (e = e') && decide (a = a')) = b) (W : World) : (Op.equalIn 10000 29 (.agg (fltC e a)) (.agg (fltC e' a'))).run Tryz.prog W = .ok b W := by
 subst h
 by_cases h1 : e = e'
 · subst h1
   by_cases h2 : a = a'
   · subst h2
     have : (Op.equalIn 10000 29 (.agg (fltC e a)) (.agg (fltC e a))).run Tryz.prog W = .ok (decide (e = e) && decide (a = a)) W := by go_simp
     exact this
   · go_simp
 · go_simp
end Go.Proofs.YtheaepceghnkpaaGreatDoor

/- Nodes and trees in memory. No condition. -/
namespace Go.Proofs.YtheaepceghnkpaaGreatDoor
open Go.RowKit Limb
set_option linter.unusedVariables false
abbrev ndC (k a b n : Int) (t u : ByteArray) (p : Int) : Array Value := #[.int .i64 k, .int .i64 a, .int .i64 b, .int .i64 n, .string t, .string u, .int .i64 p]
def ndV (x : Nd) : Array Value := ndC x.k x.a x.b x.n x.t x.u x.p
abbrev zN : Array Value := #[.int .i64 0, .int .i64 0, .int .i64 0, .int .i64 0, .string ⟨#[]⟩, .string ⟨#[]⟩, .int .i64 0]
def zNd : Nd := ⟨0, 0, 0, 0, ⟨#[]⟩, ⟨#[]⟩, 0⟩
theorem size_ndV (x : Nd) : (ndV x).size = 7 := rfl
theorem ndV_one (x : Nd) : ∀ v ∈ ndV x, v.oneCell' = true := by simp [ndV, Value.oneCell']
def ndCells (ts : List Nd) : List Value := ts.flatMap fun x => (ndV x).toList
theorem ndCells_snoc (ts : List Nd) (x : Nd) : ndCells (ts ++ [x]) = ndCells ts ++ (ndV x).toList := by simp [ndCells]
theorem len_ndCells (ts : List Nd) : (ndCells ts).length = ts.length * 7 := by
 induction ts with
 | nil => rfl
 | cons x ts ih => show ((ndV x).toList ++ ndCells ts).length = _; rw [List.length_append, ih]; simp [ndV]; omega
theorem ndCells_at : ∀ {ts : List Nd} {i : Nat} {x : Nd}, ts[i]? = some x → ∀ j v, (ndV x)[j]? = some v → (ndCells ts)[i * 7 + j]? = some v
 | [], i, x, h, _, _, _ => by simp at h
 | y :: ts, 0, x, h, j, v, hj => by
  obtain rfl : y = x := by simpa using h
  have hl : j < 7 := by
   rcases Nat.lt_or_ge j 7 with h1 | h1
   · exact h1
   · rw [Array.getElem?_eq_none (by rw [size_ndV]; exact h1)] at hj; cases hj
  show ((ndV y).toList ++ ndCells ts)[0 * 7 + j]? = some v
  rw [Nat.zero_mul, Nat.zero_add, List.getElem?_append_left (by simpa [ndV] using hl)]
  simpa using hj
 | y :: ts, i + 1, x, h, j, v, hj => by
  have := ndCells_at (ts := ts) (i := i) (x := x) (by simpa using h) j v hj
  show ((ndV y).toList ++ ndCells ts)[(i + 1) * 7 + j]? = some v
  rw [List.getElem?_append_right (by simp [ndV]; omega), show (i + 1) * 7 + j - (ndV y).toList.length = i * 7 + j by simp [ndV]; omega]
  exact this
theorem nds_elem : Elem Tryz.prog 33 47 7 := elem_of Tryz.underlying33 (v := .agg zN) (b := 72) (by kernel_rfl) rfl (by decide) (by decide)
theorem sizeNd : (Tryz.prog.info? 47).map (·.size) = some 7 := by kernel_rfl
theorem manyNd (k a b n : Int) (t u : ByteArray) (p : Int) : Many Tryz.prog 47 (ndC k a b n t u p).size := ⟨sizeNd, _, Tryz.underlying47, rfl⟩
theorem manyN (x : Nd) : Many Tryz.prog 47 (ndV x).size := manyNd _ _ _ _ _ _ _
theorem fitsNd (x y : Nd) : Many Tryz.prog 47 (ndV x).size ∧ (ndV y).size = (ndV x).size ∧ ∀ v ∈ ndV x, v.oneCell' = true := ⟨manyN x, rfl, ndV_one x⟩
def TreR (w : World) (A : Option Addr) (n c : Nat) (ts : List Nd) : Prop := n = ts.length ∧ n ≤ c ∧ c ≤ maxLen ∧ (0 < n → ∃ g o, A = some ⟨g, o, none⟩ ∧ g < w.heap.size ∧ ∀ i x, ts[i]? = some x → InV w g (o + i * 7) (ndV x))
section
variable {w w' : World} {A : Option Addr} {n c : Nat} {ts : List Nd}
theorem TreR.below (h : TreR w A n c ts) (hb : Below w.heap.size w w') : TreR w' A n c ts := by
 obtain ⟨h1, h2, h3, h4⟩ := h
 refine ⟨h1, h2, h3, fun h0 => ?_⟩
 obtain ⟨g, o, e, hg, hc⟩ := h4 h0
 exact ⟨g, o, e, Nat.lt_of_lt_of_le hg hb.size, fun i x hx => (hc i x hx).below hg hb⟩
theorem TreR.at (h : TreR w A n c ts) {i : Nat} {x : Nd} (hi : ts[i]? = some x) : ∃ g o, A = some ⟨g, o, none⟩ ∧ g < w.heap.size ∧ InV w g (o + i * 7) (ndV x) := by
 obtain ⟨h1, h2, h3, h4⟩ := h
 obtain ⟨g, o, e, hg, hc⟩ := h4 (by have := (List.getElem?_eq_some_iff.1 hi).1; omega)
 exact ⟨g, o, e, hg, hc i x hi⟩
theorem TreR.len (h : TreR w A n c ts) : n = ts.length := h.1
theorem TreR.nil (w : World) {A : Option Addr} {c : Nat} (hc : c ≤ maxLen) : TreR w A 0 c [] := ⟨rfl, Nat.zero_le _, hc, fun h => absurd h (by omega)⟩
theorem TreR.take (h : TreR w A n c ts) {m : Nat} (hm : m ≤ n) : TreR w A m c (ts.take m) := by
 obtain ⟨h1, h2, h3, h4⟩ := h
 refine ⟨by rw [List.length_take]; omega, by omega, h3, fun h0 => ?_⟩
 obtain ⟨g, o, e, hg, hc⟩ := h4 (by omega)
 refine ⟨g, o, e, hg, fun i x hx => hc i x ?_⟩
 rw [List.getElem?_take] at hx
 split at hx
 · exact hx
 · cases hx
theorem OwnR.tree {B : Nat} (h : OwnR w B 47 7 A n c (ndCells ts)) (hn : n = ts.length) (hc : n ≤ c) (hm : c ≤ maxLen) : TreR w A n c ts := by
 refine ⟨hn, hc, hm, fun h0 => ?_⟩
 obtain ⟨g, e, _, h4, _, h5, h6⟩ := h.cells h0
 exact ⟨g, 0, e, h4, fun i x hx j v hj => by rw [Nat.zero_add]; exact h6 _ _ (ndCells_at hx j v hj)⟩
end
def eqN (x y : Nd) : Bool := sameN x y && decide (x.p = y.p)
set_option maxHeartbeats 2000000 in
theorem equal_nd {x y : Nd} {b : Bool} (h : eqN x y = b) (W : World) : (Op.equalIn 10000 47 (.agg (ndV x)) (.agg (ndV y))).run Tryz.prog W = .ok b W := by
 obtain ⟨k, a, b, n, t, u, p⟩ := x
 obtain ⟨k', a', b', n', t', u', p'⟩ := y
 unfold eqN sameN at h
 dsimp only at h
 subst h
 show (Op.equalIn 10000 47 (.agg (ndC k a b n t u p)) (.agg (ndC k' a' b' n' t' u' p'))).run Tryz.prog W = _
 by_cases h0 : k = k'
 · subst h0
   by_cases h1 : a = a'
   · subst h1
     by_cases h2 : b = b'
     · subst h2
       by_cases h3 : n = n'
       · subst h3
         by_cases h4 : t = t'
         · subst h4
           by_cases h5 : u = u'
           · subst h5
             by_cases h6 : p = p'
             · subst h6
               have : (Op.equalIn 10000 47 (.agg (ndC k a b n t u p)) (.agg (ndC k a b n t u p))).run Tryz.prog W = .ok (decide (k = k) && decide (a = a) && decide (b = b) && decide (n = n) && decide (t = t) && decide (u = u) && decide (p = p)) W := by go_simp
               exact this
             · go_simp
           · have g5 : (u.toList == u'.toList) = false := by
              rw [beq_eq_false_iff_ne]
              intro e
              exact h5 (by rw [ByteArray.toList_eq, ByteArray.toList_eq] at e; exact ByteArray.ext (Array.toList_inj.1 e))
             go_simp
         · have g4 : (t.toList == t'.toList) = false := by
            rw [beq_eq_false_iff_ne]
            intro e
            exact h4 (by rw [ByteArray.toList_eq, ByteArray.toList_eq] at e; exact ByteArray.ext (Array.toList_inj.1 e))
           go_simp
       · go_simp
     · go_simp
   · go_simp
 · go_simp
end Go.Proofs.YtheaepceghnkpaaGreatDoor

/- Regions that leave their order open, stores among their operations: one law by an invariant over what has come up, whatever the order; what may happen to the world is a relation of one's own. Of any program; no condition. -/
namespace Go.Proofs.YtheaepceghnkpaaGreatDoor
open Go.RowKit Limb
set_option linter.unusedVariables false
def dAt : List (Option Tmp) → Nat → Option Tmp
 | [], _ => none
 | d :: _, 0 => d
 | _ :: r, k + 1 => dAt r k
def slotV (d : Option Tmp) (a : Act) : Value := match d with
 | some t => a.eval (.tmp t)
 | none => undef
section
variable {P : Program} {Q : Exit → Act → World → Prop}
def okAtR (ops : Array Oper) (m : Nat) (ds : List (Option Tmp)) (N : Nat) (i : Nat) : Bool :=
 match ops[i]? with
 | none => false
 | some o => o.dst == dAt ds i && (match dAt ds i with | some d => decide (d < N) | none => true) && o.guard.isNone && isPlain o.op && (afters ops i).all (fun e => decide (e < i)) &&
  (List.range m).all (fun k => k == i || (dAt ds i).isNone || dAt ds k != dAt ds i) &&
  o.op.operands.toList.all (fun x => match x with
   | .tmp t => (List.range m).all fun k => dAt ds k != some t || (afters ops i).contains k
   | _ => true)
theorem okAtR_spec {ops : Array Oper} {m : Nat} {ds : List (Option Tmp)} {N i : Nat} (h : okAtR ops m ds N i = true) :
 ∃ o, ops[i]? = some o ∧ o.dst = dAt ds i ∧ (∀ d, dAt ds i = some d → d < N) ∧ o.guard = none ∧ (∀ cs b, o.op ≠ .select cs b) ∧ (∀ e ∈ afters ops i, e < i) ∧
  (∀ k, k < m → k ≠ i → ∀ d, dAt ds i = some d → dAt ds k ≠ some d) ∧ (∀ x ∈ o.op.operands, ∀ t, x = .tmp t → ∀ k, k < m → dAt ds k = some t → k ∈ afters ops i) := by
 unfold okAtR at h
 cases ho : ops[i]? with
 | none => rw [ho] at h; cases h
 | some o =>
  rw [ho] at h
  simp only [Bool.and_eq_true, beq_iff_eq, decide_eq_true_eq, List.all_eq_true, Bool.or_eq_true, bne_iff_ne, List.mem_range, Option.isNone_iff_eq_none] at h
  obtain ⟨⟨⟨⟨⟨⟨h1, h3⟩, h4⟩, h5⟩, h6⟩, h7⟩, h8⟩ := h
  refine ⟨o, rfl, h1, fun d hd => ?_, h4, ?_, h6, fun k hk hne d hd hkd => ?_, ?_⟩
  · rw [hd] at h3; simpa using h3
  · intro cs b he
    rw [he] at h5
    cases h5
  · rcases h7 k hk with (h9 | h9) | h9
    · exact hne h9
    · rw [hd] at h9; cases h9
    · exact h9 (hkd.trans hd.symm)
  · rintro x hx t rfl k hk hd
    have := h8 _ (by simpa using hx)
    simp only [List.all_eq_true, List.mem_range, Bool.or_eq_true, bne_iff_ne, List.contains_iff_mem] at this
    exact (this k hk).resolve_left fun h => h hd
end
/-! Stores of single cells into blocks of the call's own: rows: the block, what it held, what it will hold. -/
def StR (T : TypeId) (rows : List (Nat × Array Value × Array Value)) (wx wy : World) : Prop :=
 wy.os = wx.os ∧ wy.tape = wx.tape ∧ wy.output = wx.output ∧ wx.heap.size ≤ wy.heap.size ∧ (∀ g, (∀ r ∈ rows, r.1 ≠ g) → wy.heap[g]? = wx.heap[g]?) ∧
  ∀ r ∈ rows, ∀ V, RowA wx r.1 T V → RowA wy r.1 T V ∨ RowA wy r.1 T r.2.2
def StS (T : TypeId) (rows : List (Nat × Array Value × Array Value)) (w0 wS wx : World) : Prop :=
 Below w0.heap.size w0 wx ∧ (∀ r ∈ rows, w0.heap.size ≤ r.1) ∧ (∀ g, (∀ r ∈ rows, r.1 ≠ g) → wx.heap[g]? = wS.heap[g]?) ∧ ∀ r ∈ rows, RowA wx r.1 T r.2.1 ∨ RowA wx r.1 T r.2.2
section
variable {T : TypeId} {rows : List (Nat × Array Value × Array Value)} {w0 wS wx wy : World}
theorem StR.refl (wx : World) : StR T rows wx wx := ⟨rfl, rfl, rfl, Nat.le_refl _, fun _ _ => rfl, fun _ _ _ h => .inl h⟩
theorem StS.step (h : StR T rows wx wy) (k : StS T rows w0 wS wx) : StS T rows w0 wS wy := by
 obtain ⟨h1, h2, h3, h4, h5, h6⟩ := h
 obtain ⟨k1, k2, k3, k4⟩ := k
 refine ⟨k1.trans ⟨h1, h2, h3, h4, fun g hg => h5 g fun r hr e => ?_⟩, k2, fun g hg => (h5 g hg).trans (k3 g hg), fun r hr => ?_⟩
 · have := k2 r hr; omega
 · rcases k4 r hr with h | h
   · exact h6 r hr _ h
   · rcases h6 r hr _ h with h | h <;> exact .inr h
theorem StS.start (hb : Below w0.heap.size w0 wS) (hg : ∀ r ∈ rows, w0.heap.size ≤ r.1) (hr : ∀ r ∈ rows, RowA wS r.1 T r.2.1) : StS T rows w0 wS wS.drew := ⟨hb.drew, hg, fun _ _ => rfl, fun r h => .inl (hr r h)⟩
theorem StS.row {g : Nat} {U : TypeId} {V : Array Value} (h : StS T rows w0 wS wx) (hg : ∀ r ∈ rows, r.1 ≠ g) (k : RowA wS g U V) : RowA wx g U V := (h.2.2.1 g hg).trans k
theorem StS.here (h : StS T rows w0 wS wx) {r : Nat × Array Value × Array Value} (hr : r ∈ rows) (k : Nat) : (∃ v, r.2.1[k]? = some v) → (∃ v, r.2.2[k]? = some v) → ∃ v, wx.cell? ⟨r.1, k, none⟩ = some v := by
 rintro ⟨v, h1⟩ ⟨u, h2⟩
 rcases h.2.2.2 r hr with h3 | h3
 · exact ⟨v, h3.cell h1⟩
 · exact ⟨u, h3.cell h2⟩
theorem StS.free (h : StS T rows w0 wS wx) {r : Nat × Array Value × Array Value} (hr : r ∈ rows) (k : Nat) : wx.frozen? ⟨r.1, k, none⟩ = false := by
 rcases h.2.2.2 r hr with h3 | h3 <;> exact h3.free k
theorem StS.store (h : StS T rows w0 wS wx) {r : Nat × Array Value × Array Value} (hr : r ∈ rows) (hd : ∀ s ∈ rows, s ≠ r → s.1 ≠ r.1) {k : Nat} {v : Value} (h1 : r.2.1.setIfInBounds k v = r.2.2) (h2 : r.2.2.setIfInBounds k v = r.2.2) :
 StR T rows wx (wx.setCell ⟨r.1, k, none⟩ v) ∧ RowA (wx.setCell ⟨r.1, k, none⟩ v) r.1 T r.2.2 := by
 have hN : RowA (wx.setCell ⟨r.1, k, none⟩ v) r.1 T r.2.2 := by
  rcases h.2.2.2 r hr with h3 | h3
  · have h4 := h3.set k v; rwa [h1] at h4
  · have h4 := h3.set k v; rwa [h2] at h4
 refine ⟨⟨rfl, rfl, rfl, by simp [World.setCell], fun g hg => heap_setCell_other _ _ _ _ (fun e => hg r hr e.symm), fun s hs V hV => ?_⟩, hN⟩
 by_cases e : s = r
 · subst e; exact .inr hN
 · exact .inl (hV.far (hd s hs e).symm k v)
end
end Go.Proofs.YtheaepceghnkpaaGreatDoor

/- Tokens in memory. No condition. -/
namespace Go.Proofs.YtheaepceghnkpaaGreatDoor
open Go.RowKit Limb
set_option linter.unusedVariables false
abbrev tkC (k : Int) (s : ByteArray) (a : Int) : Array Value := #[.int .i64 k, .string s, .int .i64 a]
def tkV (t : Tk) : Array Value := tkC (t.1 : Int) (strOf t.2.1) (t.2.2 : Int)
def tkCells (ts : List Tk) : List Value := ts.flatMap fun t => (tkV t).toList
theorem tkCells_snoc (ts : List Tk) (t : Tk) : tkCells (ts ++ [t]) = tkCells ts ++ (tkV t).toList := by simp [tkCells]
theorem tkCells_at : ∀ {ts : List Tk} {i : Nat} {t : Tk}, ts[i]? = some t → ∀ j v, (tkV t)[j]? = some v → (tkCells ts)[i * 3 + j]? = some v
 | [], i, t, h, _, _, _ => by simp at h
 | u :: ts, 0, t, h, j, v, hj => by
  obtain rfl : u = t := by simpa using h
  have hl : j < 3 := by
   rcases Nat.lt_or_ge j 3 with h1 | h1
   · exact h1
   · simp [tkV, Array.getElem?_eq_none (show (#[Value.int .i64 (u.1 : Int), .string (strOf u.2.1), .int .i64 (u.2.2 : Int)] : Array Value).size ≤ j from h1)] at hj
  show ((tkV u).toList ++ tkCells ts)[0 * 3 + j]? = some v
  rw [Nat.zero_mul, Nat.zero_add, List.getElem?_append_left (by simpa [tkV] using hl)]
  simpa using hj
 | u :: ts, i + 1, t, h, j, v, hj => by
  have := tkCells_at (ts := ts) (i := i) (t := t) (by simpa using h) j v hj
  show ((tkV u).toList ++ tkCells ts)[(i + 1) * 3 + j]? = some v
  rw [List.getElem?_append_right (by simp [tkV]; omega), show (i + 1) * 3 + j - (tkV u).toList.length = i * 3 + j by simp [tkV]; omega]
  exact this
theorem toks_elem : Elem Tryz.prog 60 89 3 := elem_of Tryz.underlying60 (v := .agg #[.int .i64 0, .string ⟨#[]⟩, .int .i64 0]) (b := 32) (by kernel_rfl) rfl (by decide) (by decide)
theorem sizeTk : (Tryz.prog.info? 89).map (·.size) = some 3 := by kernel_rfl
theorem manyTk (k : Int) (s : ByteArray) (a : Int) : Many Tryz.prog 89 (tkC k s a).size := ⟨sizeTk, _, Tryz.underlying89, rfl⟩
def TokR (w : World) (A : Option Addr) (n c : Nat) (ts : List Tk) : Prop := n = ts.length ∧ n ≤ c ∧ ∃ B, OwnR w B 89 3 A n c (tkCells ts)
theorem TokR.below {w w' : World} {A : Option Addr} {n c : Nat} {ts : List Tk} (h : TokR w A n c ts) (hb : Below w.heap.size w w') : TokR w' A n c ts := by
 obtain ⟨h1, h2, B, h3⟩ := h
 exact ⟨h1, h2, B, h3.below hb⟩
theorem TokR.at {w : World} {A : Option Addr} {n c : Nat} {ts : List Tk} (h : TokR w A n c ts) {i : Nat} {t : Tk} (hi : ts[i]? = some t) : ∃ g, A = some ⟨g, 0, none⟩ ∧ g < w.heap.size ∧ c ≤ maxLen ∧ InV w g (i * 3) (tkV t) := by
 obtain ⟨h1, h2, B, h3⟩ := h
 have hlt : i < ts.length := (List.getElem?_eq_some_iff.1 hi).1
 obtain ⟨g, e, _, h4, _, h5, h6⟩ := h3.cells (by omega)
 exact ⟨g, e, h4, h5, fun j v hj => h6 _ _ (tkCells_at hi j v hj)⟩
theorem TokR.nil (w : World) : TokR w none 0 0 [] := ⟨rfl, Nat.le_refl _, 0, OwnR.nil _ _ _ _⟩
end Go.Proofs.YtheaepceghnkpaaGreatDoor

/- Regions that leave their order open, an append among their operations and stores behind: one law by an invariant over what has come up; what each operation may do to the world is a relation of one's own, and the invariant knows which have come up. Of any program; no condition. -/
namespace Go.Proofs.YtheaepceghnkpaaGreatDoor
open Go.RowKit Limb
set_option linter.unusedVariables false
section
variable {P : Program} {Q : Exit → Act → World → Prop}
def FreeStepS (P : Program) (Q : Exit → Act → World → Prop) (ops : Array Oper) (ds : List (Option Tmp)) (aF : (Nat → Value) → Act) (R : Nat → World → World → Prop) (S : (Nat → Bool) → World → Prop) (Φ : Nat → Value → World → Prop) (i : Nat) (o : Oper) : Prop :=
 ∀ (vals : Nat → Value) (w : World) (l : Nat → Bool), l i = false → S l w → (∀ e ∈ afters ops i, Φ e (vals e) w) → ∀ K : Act → World → Prop,
  (∀ a' w', a'.defers = (aF vals).defers → R i w w' → Φ i (slotV (dAt ds i) a') w' → K a' w') → o.wp P (aF vals) w K Q
theorem region_freeS {id : Nat} {a : Act} {w : World} {os : List Oper} (m r : Nat) (ds : List (Option Tmp)) (aF : (Nat → Value) → Act) (R : Nat → World → World → Prop) (S : (Nat → Bool) → World → Prop) (Φ : Nat → Value → World → Prop)
 (hm : P.follows .mixedOrders = true)
 (haF : ∀ vals, fillAll (dAt ds) vals a m = aF vals)
 (hr : os.length = m + r)
 (hok : (List.range m).all (okAtR os.toArray m ds a.tmps.size) = true)
 (hend : (List.range os.length).all (fun i => decide (i < m) || (List.range m).all fun k => (anc os.toArray 3 i).contains k) = true)
 (hQ : ∀ c (t t' : Array Value) (d : List Deferred) w, Q (.panic c) ⟨t, d⟩ w → Q (.panic c) ⟨t', d⟩ w)
 (hSb : ∀ i (l : Nat → Bool) w w', i < m → l i = false → R i w w' → S l w → S (fun k => if k = i then true else l k) w')
 (hΦb : ∀ i k v w w', i < m → i ≠ k → R i w w' → Φ k v w → Φ k v w')
 (hS : S (fun _ => false) w.drew)
 (hop : AllAt (FreeStepS P Q os.toArray ds aF R S Φ) 0 os m)
 (hfin : ∀ (vals : Nat → Value) (w : World) (l : Nat → Bool), (∀ k, k < m → l k = true) → S l w → (∀ k, k < m → Φ k (vals k) w) → wpAny P .any os.toArray Q r (firsts (m + r) m) (aF vals) w) :
 (Code.region id os.toArray true).wp P Q a w := by
 generalize hops : os.toArray = ops at *
 have hsz0 : ops.size = m + r := by rw [← hops]; simpa using hr
 replace hend : (List.range ops.size).all (fun i => decide (i < m) || (List.range m).all fun k => (anc ops 3 i).contains k) = true := by rw [hsz0, ← hr]; exact hend
 have hle : m ≤ ops.size := by omega
 replace hop : ∀ i, i < m → ∀ o, ops[i]? = some o → FreeStepS P Q ops ds aF R S Φ i o := fun i hi o ho => by
  have := hop.at i hi o (by rw [← hops] at ho; simpa using ho)
  rwa [Nat.zero_add] at this
 replace hfin : ∀ (vals : Nat → Value) (w : World) (z : Nat → Bool), (∀ k, k < m → z k = true) → S z w → (∀ k, k < m → Φ k (vals k) w) →
  ∀ l : Array Bool, l.size = ops.size → (∀ k, l.getD k false = decide (k < m)) → wpAny P .any ops Q (ops.size - m) l (aF vals) w := fun vals w z h0 h1 h2 l h4 h5 => by
  rw [firsts_eq (h4.trans hsz0) (by omega) h5, show ops.size - m = r by omega]
  exact hfin vals w z h0 h1 h2
 replace hQ : ∀ c (a a' : Act) w, a.defers = a'.defers → Q (.panic c) a w → Q (.panic c) a' w := by
  rintro c ⟨t, d⟩ ⟨t', d'⟩ w he h
  obtain rfl : d = d' := he
  exact hQ c t t' d w h
 refine wp_region_any hm ?_
 have hat : ∀ i, i < m → okAtR ops m ds a.tmps.size i = true := fun i hi => List.all_eq_true.1 hok i (List.mem_range.2 hi)
 have hlate : ∀ i, m ≤ i → i < ops.size → ∀ k, k < m → k ∈ anc ops 3 i := fun i h1 h2 k hk => by
  have := List.all_eq_true.1 hend i (List.mem_range.2 h2)
  simp only [Bool.or_eq_true, decide_eq_true_eq, List.all_eq_true, List.mem_range, List.contains_iff_mem] at this
  exact (this.resolve_left (by omega)) k hk
 have hfr : ∀ (l : Array Bool), l = Array.replicate ops.size false → ∀ k, l.getD k false = false := by
  rintro l rfl k
  simp only [Array.getD_eq_getD_getElem?, Array.getElem?_replicate]
  split <;> rfl
 let J : Array Bool → Act → World → Prop := fun l a' w' => (l.size = ops.size ∧ ∀ k, m ≤ k → l.getD k false = false) ∧ S (fun k => l.getD k false) w' ∧ (∀ k, k < m → l.getD k false = true → ∀ e ∈ afters ops k, l.getD e false = true) ∧
  ∃ vals, a' = fill (dAt ds) vals l a m ∧ (∀ k, k < m → l.getD k false = true → Φ k (vals k) w')
 have hdown : ∀ l a' w', J l a' w' → ∀ k, l.getD k false = true → ∀ e ∈ afters ops k, l.getD e false = true := fun l a' w' hj k hk => by
  rcases Nat.lt_or_ge k m with h1 | h1
  · exact hj.2.2.1 k h1 hk
  · rw [hj.1.2 k h1] at hk
    cases hk
 have hz : ∀ j, j ≤ m → left (Array.replicate ops.size false) j = j := fun j => by
  induction j with
  | zero => exact fun _ => rfl
  | succ j ihj => exact fun h => by unfold left; rw [ihj (by omega), hfr _ rfl j]; rfl
 have key := wpAny_inv (P := P) (ops := ops) (Q := Q) (md := .any) m J (fun l a' w' hj => hj.1) hle (fun i o h1 ho e he hb => ?hback) (fun l a' w' i hj hi h1 => ?hstep) (fun l a' w' i hj hi h1 k hk => ?hwait) (fun l a' w' hj hall => ?hfin)
  m (Array.replicate ops.size false) a w.drew (hz m (Nat.le_refl _)) ⟨⟨by simp, fun k _ => hfr _ rfl k⟩, (by rw [show (fun k => (Array.replicate ops.size false).getD k false) = fun _ => false from funext fun k => hfr _ rfl k]; exact hS), fun k _ h => (by rw [hfr _ rfl k] at h; cases h),
   fun _ => undef, (fill_none fun k _ => hfr _ rfl k).symm, fun k _ h => (by rw [hfr _ rfl k] at h; cases h)⟩
 · have e : ops.size - m + m = ops.size := by omega
   rw [e] at key
   exact key
 case hback =>
  obtain ⟨_, _, _, _, _, _, hlow, _, _⟩ := okAtR_spec (hat i h1)
  refine hlow e.on ?_
  unfold afters
  rw [ho]
  exact List.mem_map.2 ⟨e, List.mem_filter.2 ⟨by simpa using he, hb⟩, rfl⟩
 case hwait =>
  have hlt : i < ops.size := by
   obtain ⟨_, o, ho, _⟩ := mem_ready.1 hi
   exact (Array.getElem?_eq_some_iff.1 ho).1
  exact anc_up (hdown l a' w' hj) 3 i (fun e he => ready_after hi he) k (hlate i h1 hlt k hk)
 case hfin =>
  obtain ⟨⟨hs, hl⟩, hSw, _, vals, rfl, hv⟩ := hj
  rw [fill_all hall, haF]
  refine hfin vals w' _ hall hSw (fun k hk => hv k hk (hall k hk)) l hs fun k => ?_
  rcases Nat.lt_or_ge k m with h | h
  · rw [hall k h, decide_eq_true h]
  · rw [hl k h, decide_eq_false (by omega)]
 case hstep =>
  obtain ⟨⟨hs, hl⟩, hSw, hdn, vals, rfl, hv⟩ := hj
  obtain ⟨o, ho, hdst, hlt, hg, hsel, hlow, hdist, hops⟩ := okAtR_spec (hat i h1)
  have hu : l.getD i false = false := by
   have h2 := (mem_ready.1 hi).1
   have h3 : i < l.size := by omega
   simp only [Array.getD_eq_getD_getElem?] at h2 ⊢
   rw [Array.getElem?_eq_getElem h3] at h2 ⊢
   simpa using h2
  have hdep : ∀ e ∈ afters ops i, l.getD e false = true := fun e he => ready_after hi he
  have heval : ∀ x ∈ o.op.operands, (fill (dAt ds) vals l a m).eval x = (aF vals).eval x := fun x hx => by
   rw [← haF vals]
   exact fill_eval fun k hk hk2 d hd hxd => by
    rw [hdep k (hops x hx d hxd k hk hd)] at hk2
    cases hk2
  have hrun := hop i h1 o ho vals w' _ hu hSw (fun e he => hv e (by have := hlow e he; omega) (hdep e he))
   (fun a2 w2 => a2.defers = (aF vals).defers ∧ R i w' w2 ∧ Φ i (slotV (dAt ds i) a2) w2)
   (fun a2 w2 h1 h2 h3 => ⟨h1, h2, h3⟩)
  have next : ∀ v v' w2, R i w' w2 → Φ i v w2 → (dAt ds i ≠ none → v = v') →
   J (l.setIfInBounds i true) ((fill (dAt ds) vals l a m).put o.dst v') w2 := fun v v' w2 hb hphi hvv => by
   have hne : ∀ k, k ≠ i → (l.setIfInBounds i true).getD k false = l.getD k false := fun k hk => getD_other (Ne.symm hk) _
   refine ⟨⟨by simpa using hs, fun k hk => by rw [hne k (by omega)]; exact hl k hk⟩, (by
    have h9 := hSb i _ _ _ h1 hu hb hSw
    have e9 : (fun k => if k = i then true else l.getD k false) = fun k => (l.setIfInBounds i true).getD k false := funext fun k => by
     by_cases hk : k = i
     · subst hk; rw [if_pos rfl, getD_same (by omega)]
     · rw [if_neg hk, hne k hk]
    rw [← e9]; exact h9), fun k hk hk2 e he => ?_, upd vals i v, ?_, fun k hk hk2 => ?_⟩
   · by_cases hki : k = i
     · subst hki
       rw [hne e (by have := hlow e he; omega)]
       exact hdep e he
     · rw [hne k hki] at hk2
       by_cases hei : e = i
       · subst hei
         exact getD_same (by omega) _
       · rw [hne e hei]
         exact hdn k hk hk2 e he
   · rw [hdst]
     have h4 := fill_set (D := dAt ds) (vals := vals) (l := l) (a := a) (i := i) (v := v) (by omega) hu h1 fun j hj hji d hd hdi2 => hdist j hj hji d hdi2 hd
     rw [← h4]
     cases hd : dAt ds i with
     | none => rfl
     | some d => rw [hvv (by rw [hd]; simp)]
   · by_cases hki : k = i
     · subst hki
       rw [show upd vals k v k = v from if_pos rfl]
       exact hphi
     · rw [hne k hki] at hk2
       rw [show upd vals i v k = vals k from if_neg hki]
       exact hΦb i _ _ _ _ h1 (Ne.symm hki) hb (hv k hk hk2)
  unfold wpOp
  rw [ho]
  simp only []
  rw [if_pos (by unfold Region.wanted; rw [hg])]
  refine .inl ?_
  unfold Oper.wp at hrun ⊢
  rw [execOp_congr o hsel heval]
  generalize (execOp (aF vals).eval o).run P w' = r at hrun ⊢
  have hdef : (aF vals).defers = (fill (dAt ds) vals l a m).defers := by rw [← haF vals, fillAll_defers, fill_defers]
  have hput : ∀ v, dAt ds i ≠ none → slotV (dAt ds i) ((aF vals).put o.dst v) = v := fun v hd => by
   rw [hdst]
   cases hq : dAt ds i with
   | none => exact absurd hq hd
   | some d => exact put_same _ _ _ (by rw [← haF vals, fillAll_size]; exact hlt d hq)
  cases r with
  | ok n w2 =>
   cases n <;> simp only [Oper.upon] at hrun ⊢
   case value v => exact next _ _ _ hrun.2.1 hrun.2.2 (hput v)
   case skip => exact next _ _ _ hrun.2.1 hrun.2.2 (hput _)
   case defer d =>
    exfalso
    have := hrun.1
    rw [put_defers2] at this
    have := congrArg List.length this
    simp at this
   case enter f args =>
    refine Calls.mono hrun fun e w3 he => ?_
    cases e with
    | returned v => simp only at he ⊢; exact next _ _ _ he.2.1 he.2.2 (hput v)
    | panicked c => exact hQ _ _ _ _ hdef he
    | outgrown => exact he
   case row r args =>
    refine Rows.mono hrun fun v w3 he => ?_
    exact next _ _ _ he.2.1 he.2.2 (hput v)
  | halt x w2 =>
   cases x <;> simp only [Oper.upon] at hrun ⊢ <;> exact hQ _ _ _ _ hdef hrun
end
end Go.Proofs.YtheaepceghnkpaaGreatDoor

/- Regions that leave their order open, an append among their operations and stores behind, the last operations' waiting followed as deep as one likes. Of any program; no condition. -/
namespace Go.Proofs.YtheaepceghnkpaaGreatDoor
open Go.RowKit Limb
set_option linter.unusedVariables false
section
variable {P : Program} {Q : Exit → Act → World → Prop}
theorem region_freeT {id : Nat} {a : Act} {w : World} {os : List Oper} (m r D : Nat) (ds : List (Option Tmp)) (aF : (Nat → Value) → Act) (R : Nat → World → World → Prop) (S : (Nat → Bool) → World → Prop) (Φ : Nat → Value → World → Prop)
 (hm : P.follows .mixedOrders = true)
 (haF : ∀ vals, fillAll (dAt ds) vals a m = aF vals)
 (hr : os.length = m + r)
 (hok : (List.range m).all (okAtR os.toArray m ds a.tmps.size) = true)
 (hend : (List.range os.length).all (fun i => decide (i < m) || (List.range m).all fun k => (anc os.toArray D i).contains k) = true)
 (hQ : ∀ c (t t' : Array Value) (d : List Deferred) w, Q (.panic c) ⟨t, d⟩ w → Q (.panic c) ⟨t', d⟩ w)
 (hSb : ∀ i (l : Nat → Bool) w w', i < m → l i = false → R i w w' → S l w → S (fun k => if k = i then true else l k) w')
 (hΦb : ∀ i k v w w', i < m → i ≠ k → R i w w' → Φ k v w → Φ k v w')
 (hS : S (fun _ => false) w.drew)
 (hop : AllAt (FreeStepS P Q os.toArray ds aF R S Φ) 0 os m)
 (hfin : ∀ (vals : Nat → Value) (w : World) (l : Nat → Bool), (∀ k, k < m → l k = true) → S l w → (∀ k, k < m → Φ k (vals k) w) → wpAny P .any os.toArray Q r (firsts (m + r) m) (aF vals) w) :
 (Code.region id os.toArray true).wp P Q a w := by
 generalize hops : os.toArray = ops at *
 have hsz0 : ops.size = m + r := by rw [← hops]; simpa using hr
 replace hend : (List.range ops.size).all (fun i => decide (i < m) || (List.range m).all fun k => (anc ops D i).contains k) = true := by rw [hsz0, ← hr]; exact hend
 have hle : m ≤ ops.size := by omega
 replace hop : ∀ i, i < m → ∀ o, ops[i]? = some o → FreeStepS P Q ops ds aF R S Φ i o := fun i hi o ho => by
  have := hop.at i hi o (by rw [← hops] at ho; simpa using ho)
  rwa [Nat.zero_add] at this
 replace hfin : ∀ (vals : Nat → Value) (w : World) (z : Nat → Bool), (∀ k, k < m → z k = true) → S z w → (∀ k, k < m → Φ k (vals k) w) →
  ∀ l : Array Bool, l.size = ops.size → (∀ k, l.getD k false = decide (k < m)) → wpAny P .any ops Q (ops.size - m) l (aF vals) w := fun vals w z h0 h1 h2 l h4 h5 => by
  rw [firsts_eq (h4.trans hsz0) (by omega) h5, show ops.size - m = r by omega]
  exact hfin vals w z h0 h1 h2
 replace hQ : ∀ c (a a' : Act) w, a.defers = a'.defers → Q (.panic c) a w → Q (.panic c) a' w := by
  rintro c ⟨t, d⟩ ⟨t', d'⟩ w he h
  obtain rfl : d = d' := he
  exact hQ c t t' d w h
 refine wp_region_any hm ?_
 have hat : ∀ i, i < m → okAtR ops m ds a.tmps.size i = true := fun i hi => List.all_eq_true.1 hok i (List.mem_range.2 hi)
 have hlate : ∀ i, m ≤ i → i < ops.size → ∀ k, k < m → k ∈ anc ops D i := fun i h1 h2 k hk => by
  have := List.all_eq_true.1 hend i (List.mem_range.2 h2)
  simp only [Bool.or_eq_true, decide_eq_true_eq, List.all_eq_true, List.mem_range, List.contains_iff_mem] at this
  exact (this.resolve_left (by omega)) k hk
 have hfr : ∀ (l : Array Bool), l = Array.replicate ops.size false → ∀ k, l.getD k false = false := by
  rintro l rfl k
  simp only [Array.getD_eq_getD_getElem?, Array.getElem?_replicate]
  split <;> rfl
 let J : Array Bool → Act → World → Prop := fun l a' w' => (l.size = ops.size ∧ ∀ k, m ≤ k → l.getD k false = false) ∧ S (fun k => l.getD k false) w' ∧ (∀ k, k < m → l.getD k false = true → ∀ e ∈ afters ops k, l.getD e false = true) ∧
  ∃ vals, a' = fill (dAt ds) vals l a m ∧ (∀ k, k < m → l.getD k false = true → Φ k (vals k) w')
 have hdown : ∀ l a' w', J l a' w' → ∀ k, l.getD k false = true → ∀ e ∈ afters ops k, l.getD e false = true := fun l a' w' hj k hk => by
  rcases Nat.lt_or_ge k m with h1 | h1
  · exact hj.2.2.1 k h1 hk
  · rw [hj.1.2 k h1] at hk
    cases hk
 have hz : ∀ j, j ≤ m → left (Array.replicate ops.size false) j = j := fun j => by
  induction j with
  | zero => exact fun _ => rfl
  | succ j ihj => exact fun h => by unfold left; rw [ihj (by omega), hfr _ rfl j]; rfl
 have key := wpAny_inv (P := P) (ops := ops) (Q := Q) (md := .any) m J (fun l a' w' hj => hj.1) hle (fun i o h1 ho e he hb => ?hback) (fun l a' w' i hj hi h1 => ?hstep) (fun l a' w' i hj hi h1 k hk => ?hwait) (fun l a' w' hj hall => ?hfin)
  m (Array.replicate ops.size false) a w.drew (hz m (Nat.le_refl _)) ⟨⟨by simp, fun k _ => hfr _ rfl k⟩, (by rw [show (fun k => (Array.replicate ops.size false).getD k false) = fun _ => false from funext fun k => hfr _ rfl k]; exact hS), fun k _ h => (by rw [hfr _ rfl k] at h; cases h),
   fun _ => undef, (fill_none fun k _ => hfr _ rfl k).symm, fun k _ h => (by rw [hfr _ rfl k] at h; cases h)⟩
 · have e : ops.size - m + m = ops.size := by omega
   rw [e] at key
   exact key
 case hback =>
  obtain ⟨_, _, _, _, _, _, hlow, _, _⟩ := okAtR_spec (hat i h1)
  refine hlow e.on ?_
  unfold afters
  rw [ho]
  exact List.mem_map.2 ⟨e, List.mem_filter.2 ⟨by simpa using he, hb⟩, rfl⟩
 case hwait =>
  have hlt : i < ops.size := by
   obtain ⟨_, o, ho, _⟩ := mem_ready.1 hi
   exact (Array.getElem?_eq_some_iff.1 ho).1
  exact anc_up (hdown l a' w' hj) D i (fun e he => ready_after hi he) k (hlate i h1 hlt k hk)
 case hfin =>
  obtain ⟨⟨hs, hl⟩, hSw, _, vals, rfl, hv⟩ := hj
  rw [fill_all hall, haF]
  refine hfin vals w' _ hall hSw (fun k hk => hv k hk (hall k hk)) l hs fun k => ?_
  rcases Nat.lt_or_ge k m with h | h
  · rw [hall k h, decide_eq_true h]
  · rw [hl k h, decide_eq_false (by omega)]
 case hstep =>
  obtain ⟨⟨hs, hl⟩, hSw, hdn, vals, rfl, hv⟩ := hj
  obtain ⟨o, ho, hdst, hlt, hg, hsel, hlow, hdist, hops⟩ := okAtR_spec (hat i h1)
  have hu : l.getD i false = false := by
   have h2 := (mem_ready.1 hi).1
   have h3 : i < l.size := by omega
   simp only [Array.getD_eq_getD_getElem?] at h2 ⊢
   rw [Array.getElem?_eq_getElem h3] at h2 ⊢
   simpa using h2
  have hdep : ∀ e ∈ afters ops i, l.getD e false = true := fun e he => ready_after hi he
  have heval : ∀ x ∈ o.op.operands, (fill (dAt ds) vals l a m).eval x = (aF vals).eval x := fun x hx => by
   rw [← haF vals]
   exact fill_eval fun k hk hk2 d hd hxd => by
    rw [hdep k (hops x hx d hxd k hk hd)] at hk2
    cases hk2
  have hrun := hop i h1 o ho vals w' _ hu hSw (fun e he => hv e (by have := hlow e he; omega) (hdep e he))
   (fun a2 w2 => a2.defers = (aF vals).defers ∧ R i w' w2 ∧ Φ i (slotV (dAt ds i) a2) w2)
   (fun a2 w2 h1 h2 h3 => ⟨h1, h2, h3⟩)
  have next : ∀ v v' w2, R i w' w2 → Φ i v w2 → (dAt ds i ≠ none → v = v') →
   J (l.setIfInBounds i true) ((fill (dAt ds) vals l a m).put o.dst v') w2 := fun v v' w2 hb hphi hvv => by
   have hne : ∀ k, k ≠ i → (l.setIfInBounds i true).getD k false = l.getD k false := fun k hk => getD_other (Ne.symm hk) _
   refine ⟨⟨by simpa using hs, fun k hk => by rw [hne k (by omega)]; exact hl k hk⟩, (by
    have h9 := hSb i _ _ _ h1 hu hb hSw
    have e9 : (fun k => if k = i then true else l.getD k false) = fun k => (l.setIfInBounds i true).getD k false := funext fun k => by
     by_cases hk : k = i
     · subst hk; rw [if_pos rfl, getD_same (by omega)]
     · rw [if_neg hk, hne k hk]
    rw [← e9]; exact h9), fun k hk hk2 e he => ?_, upd vals i v, ?_, fun k hk hk2 => ?_⟩
   · by_cases hki : k = i
     · subst hki
       rw [hne e (by have := hlow e he; omega)]
       exact hdep e he
     · rw [hne k hki] at hk2
       by_cases hei : e = i
       · subst hei
         exact getD_same (by omega) _
       · rw [hne e hei]
         exact hdn k hk hk2 e he
   · rw [hdst]
     have h4 := fill_set (D := dAt ds) (vals := vals) (l := l) (a := a) (i := i) (v := v) (by omega) hu h1 fun j hj hji d hd hdi2 => hdist j hj hji d hdi2 hd
     rw [← h4]
     cases hd : dAt ds i with
     | none => rfl
     | some d => rw [hvv (by rw [hd]; simp)]
   · by_cases hki : k = i
     · subst hki
       rw [show upd vals k v k = v from if_pos rfl]
       exact hphi
     · rw [hne k hki] at hk2
       rw [show upd vals i v k = vals k from if_neg hki]
       exact hΦb i _ _ _ _ h1 (Ne.symm hki) hb (hv k hk hk2)
  unfold wpOp
  rw [ho]
  simp only []
  rw [if_pos (by unfold Region.wanted; rw [hg])]
  refine .inl ?_
  unfold Oper.wp at hrun ⊢
  rw [execOp_congr o hsel heval]
  generalize (execOp (aF vals).eval o).run P w' = r at hrun ⊢
  have hdef : (aF vals).defers = (fill (dAt ds) vals l a m).defers := by rw [← haF vals, fillAll_defers, fill_defers]
  have hput : ∀ v, dAt ds i ≠ none → slotV (dAt ds i) ((aF vals).put o.dst v) = v := fun v hd => by
   rw [hdst]
   cases hq : dAt ds i with
   | none => exact absurd hq hd
   | some d => exact put_same _ _ _ (by rw [← haF vals, fillAll_size]; exact hlt d hq)
  cases r with
  | ok n w2 =>
   cases n <;> simp only [Oper.upon] at hrun ⊢
   case value v => exact next _ _ _ hrun.2.1 hrun.2.2 (hput v)
   case skip => exact next _ _ _ hrun.2.1 hrun.2.2 (hput _)
   case defer d =>
    exfalso
    have := hrun.1
    rw [put_defers2] at this
    have := congrArg List.length this
    simp at this
   case enter f args =>
    refine Calls.mono hrun fun e w3 he => ?_
    cases e with
    | returned v => simp only at he ⊢; exact next _ _ _ he.2.1 he.2.2 (hput v)
    | panicked c => exact hQ _ _ _ _ hdef he
    | outgrown => exact he
   case row r args =>
    refine Rows.mono hrun fun v w3 he => ?_
    exact next _ _ _ he.2.1 he.2.2 (hput v)
  | halt x w2 =>
   cases x <;> simp only [Oper.upon] at hrun ⊢ <;> exact hQ _ _ _ _ hdef hrun
end
end Go.Proofs.YtheaepceghnkpaaGreatDoor

/- How an argument that is a slice of 32-bit words is opened: it reads as limbs in the caller's memory. No condition. -/
namespace Go.Proofs.YtheaepceghnkpaaGreatDoor
open Go.ChangeShapes Go.WideShapes Go.ChangeAt Go.RowKit Limb
set_option linter.unusedVariables false
theorem own : ownKnob Tryz.prog.godebug = none := by kernel_rfl
theorem laidOut : laidOutB Tryz.prog = true := by kernel_rfl
theorem places_lt {H : Type} {enc : TypeId × Value → H} {W : World} {base : Nat} {sp : Nat → Bool} {held : Bool} {t : TypeId} {v : Value} {d : DataW H} {p : List MemPlace} (h : DataW.Trod enc Tryz.prog W base sp held t v d p) : ∀ x ∈ p, x.block < W.heap.size := by
 obtain ⟨m, hm⟩ := h; exact DataW.trod_lt m _ _ _ hm
end Go.Proofs.YtheaepceghnkpaaGreatDoor

/- How an argument that is a tree is opened: a slice of nodes that read in the caller's memory. No condition. -/
namespace Go.Proofs.YtheaepceghnkpaaGreatDoor
open Go.ChangeShapes Go.WideShapes Go.ChangeAt Go.RowKit Limb
set_option linter.unusedVariables false
theorem cellsI1 : Tryz.prog.cellsOf 3 = 1 := by kernel_rfl
section
variable {H : Type} {enc : TypeId × Value → H} {W : World} {sp : Nat → Bool} {held : Bool} {m : Nat} {x : DataW H × List MemPlace}
end
end Go.Proofs.YtheaepceghnkpaaGreatDoor

/- How an argument that is a struct of limits is opened. No condition. -/
namespace Go.Proofs.YtheaepceghnkpaaGreatDoor
open Go.ChangeShapes Go.WideShapes Go.ChangeAt Go.RowKit Limb
set_option linter.unusedVariables false
theorem cells_lim : Tryz.prog.cellsOf 23 = 4 := by kernel_rfl
set_option maxRecDepth 100000 in
theorem open_lim {H : Type} {enc : TypeId × Value → H} {W : World} {r : Reach} {b0 : Nat} {sp : Nat → Bool} {held : Bool} {v : Value} {d : DataW H} {p : List MemPlace}
 (hok : Value.okWide Tryz.prog W r b0 23 v) (h : DataW.Trod enc Tryz.prog W 0 sp held 23 v d p) :
 ∃ (a b n j : Int), v = .agg #[.int .i64 a, .int .i64 b, .int .i64 n, .int .i64 j] ∧ (Lit.int .i64 a).wf = true ∧ (Lit.int .i64 b).wf = true ∧ (Lit.int .i64 n).wf = true ∧ (Lit.int .i64 j).wf = true := by
 obtain ⟨cs, rfl, hsz⟩ := okWide_struct Tryz.underlying23 hok
 rw [cells_lim] at hsz
 obtain ⟨fuel, hf⟩ := h
 obtain ⟨xs, m, rfl, hx, hlen, hxl, hel⟩ := DataW.trod_struct Tryz.underlying23 hf
 have h0 : DataW.trod enc Tryz.prog W 0 sp held m 3 (((Value.agg cs).cells.toList.drop 0).take (Tryz.prog.cellsOf 3)) = xs[0]? := hel 0 _ rfl
 have h1 : DataW.trod enc Tryz.prog W 0 sp held m 3 (((Value.agg cs).cells.toList.drop 1).take (Tryz.prog.cellsOf 3)) = xs[1]? := hel 1 _ rfl
 have h2 : DataW.trod enc Tryz.prog W 0 sp held m 3 (((Value.agg cs).cells.toList.drop 2).take (Tryz.prog.cellsOf 3)) = xs[2]? := hel 2 _ rfl
 have h3 : DataW.trod enc Tryz.prog W 0 sp held m 3 (((Value.agg cs).cells.toList.drop 3).take (Tryz.prog.cellsOf 3)) = xs[3]? := hel 3 _ rfl
 rw [cellsI1] at h0 h1 h2 h3
 have hxl2 : xs.length = 4 := by simpa using hxl
 rw [List.getElem?_eq_getElem (by omega)] at h0 h1 h2 h3
 have hcl : cs.toList.length = 4 := by simpa using hsz
 have hcc : (Value.agg cs).cells.toList = cs.toList := rfl
 rw [hcc] at h0 h1 h2 h3
 match hcs : cs.toList, hcl with
 | [c0, c1, c2, c3], _ =>
  rw [hcs] at h0 h1 h2 h3
  obtain ⟨a, ha, _, wa⟩ := DataW.trod_int Tryz.underlying3 h0
  obtain ⟨b, hb, _, wb⟩ := DataW.trod_int Tryz.underlying3 h1
  obtain ⟨n, hn, _, hw⟩ := DataW.trod_int Tryz.underlying3 h2
  obtain ⟨j, hj, _, hv⟩ := DataW.trod_int Tryz.underlying3 h3
  simp at ha hb hn hj
  subst ha hb hn hj
  exact ⟨a, b, n, j, by rw [← Array.toArray_toList (xs := cs), hcs], wa, wb, hw, hv⟩
end Go.Proofs.YtheaepceghnkpaaGreatDoor
