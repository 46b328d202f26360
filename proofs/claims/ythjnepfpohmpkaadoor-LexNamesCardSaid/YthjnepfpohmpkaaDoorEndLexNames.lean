/- LexNames is true at every input: a name is a letter or _, then letters, digits, _, at most so many, and none of the text's own; by itself it is one token. Conditions: the given statement's own (the tables of kinds read as the card ties them). -/
import Derived.Test.YthjnepfpohmpkaaDoorM3
import Derived.Test.YthjnepfpohmpkaaDoorCards
import Derived.Test.YthjnepfpohmpkaaDoorTie
import Derived.ChangeMaps5
import Derived.Lay
import Derived.SevenTiedAt
/- LexNames is true at every input: a name is a letter or _, then letters, digits, _, at most so many, and none of the text's own; by itself it is one token. Conditions: the given statement's own (the tables of kinds read as the card ties them). -/
namespace Go.Proofs.YthjnepfpohmpkaaDoor.lawLexNames
open Go.ChangeShapes Go.WideShapes Go.ChangeAt Go.RowKit Limb
set_option linter.unusedVariables false
def okB (l : List Nat) (k : Nat) : Bool := decide (1 ≤ l.length) && decide (l.length ≤ 16) && decide (k ≤ wordN l)
theorem okB_step {l : List Nat} {k d : Nat} (hk : k < l.length) (hd : lim l k = d) : okB l (k + 1) = (okB l k && wdAt k d) := by
 have e : decide (k + 1 ≤ wordN l) = (decide (k ≤ wordN l) && wdAt k d) := by
  by_cases h : k ≤ wordN l
  · cases hw : wdAt k d with
    | true => rw [decide_eq_true h, decide_eq_true (word_step h hk (by rw [hd]; exact hw))]; rfl
    | false => have := word_stop h (fun _ => by rw [hd]; exact hw); rw [decide_eq_false (by omega), Bool.and_false]
  · rw [decide_eq_false h, decide_eq_false (by omega)]; rfl
 unfold okB
 rw [e, ← Bool.and_assoc]
theorem okB_all {l : List Nat} : okB l l.length = isWdB l := by
 unfold okB
 by_cases h : l = []
 · subst h; rfl
 · have hp := List.length_pos_iff.2 h
   by_cases hw : l.length ≤ wordN l
   · rw [isWdB_of h (Nat.le_antisymm (wordN_le l) hw), decide_eq_true hw, decide_eq_true (show 1 ≤ l.length by omega), Bool.and_true, Bool.true_and]
   · rw [isWdB_no rfl (by omega), decide_eq_false hw, Bool.and_false]
theorem own_wd {l : List Nat} (h : isWdB l = false) : ownW l = false := by
 rcases Bool.eq_false_or_eq_true (ownW l) with e | e
 · exfalso
   have hm : l = [117, 110, 105, 116] ∨ l = [115, 111, 117, 114, 99, 101] ∨ l = [99, 111, 118] ∨ l = [108, 101, 116] ∨ l = [111, 117, 116, 112, 117, 116] ∨ l = [105, 110] := by simpa [ownW] using e
   rcases hm with rfl | rfl | rfl | rfl | rfl | rfl <;> exact absurd h (by decide)
 · exact e
theorem no_own {l : List Nat} (h : ownW l = false) : l ≠ [117, 110, 105, 116] ∧ l ≠ [115, 111, 117, 114, 99, 101] ∧ l ≠ [99, 111, 118] ∧ l ≠ [108, 101, 116] ∧ l ≠ [111, 117, 116, 112, 117, 116] ∧ l ≠ [105, 110] := by
 unfold ownW at h
 simpa [List.contains_cons, List.contains_nil] using h
theorem one_not {l : List Nat} {t : Tk} (hw : isWdB l = false) (h : lexT l = .ok [t]) (s : ByteArray) (hs : bytesOf s = l) : (decide ((t.1 : Int) = 1) && decide (strOf t.2.1 = s) && decide ((t.2.2 : Int) = 0)) = false := by
 rcases Bool.eq_false_or_eq_true (decide ((t.1 : Int) = 1) && decide (strOf t.2.1 = s) && decide ((t.2.2 : Int) = 0)) with e | e
 · exfalso
   simp only [Bool.and_eq_true, decide_eq_true_eq] at e
   obtain ⟨⟨e1, e2⟩, e3⟩ := e
   have hk := lexR_kind _ _ _ _ h t (by simp)
   obtain ⟨k, b, a⟩ := t
   dsimp only at e1 e2 e3
   have e1' : k = 1 := by omega
   have e3' : a = 0 := by omega
   subst e1' e3'
   have hst := (lexR_stands _ _ _ _ h).1
   obtain ⟨_, _, h3, _, h5, _⟩ := hst
   have e5 : b = l := by
    have hb2 : Bytes b := by
     have h6 : l.take b.length = b := h5
     rw [← h6, ← hs]
     exact bytes_take (bytes_bytesOf s) _
    rw [← hs, ← e2, bytesOf_strOf hb2]
   subst e5
   rw [one_word h] at hw
   cases hw
 · exact e
set_option maxHeartbeats 8000000 in
set_option maxRecDepth 100000 in
theorem walk (s_s : ByteArray) (w : World) (z_s : s_s.size ≤ maxLen) (HT : XTab w) :
 Calls Tryd.prog 6 #[.string s_s] w fun e w' => e = .returned (.bool true) ∧ Below w.heap.size w w' := by
 have HT0 := Lib.hid HT
 clear HT
 have HL := Lib.hid (length_bytesOf s_s)
 by_cases h200 : 200 < s_s.size
 · have bw := bel_refl w
   have hgt : (200 : Int) < (s_s.size : Int) := by omega
   go_enter Tryd.func6, Tryd.ntmps6
   go_wp2_with fail
   refine (wakes_any w (Lib.hid (HT0.out.below bw))).mono ?_
   rintro e w1 ⟨rfl, bn⟩
   replace bw := below_two bw bn
   clear bn
   go_wp2
   go_ret
   exact ⟨rfl, bw⟩
 · have h2 : ¬ ((200 : Int) < (s_s.size : Int)) := by omega
   go_enter Tryd.func6, Tryd.ntmps6
   have H0 : Hid (okB (bytesOf s_s) 0 = (decide (1 ≤ s_s.size) && decide (s_s.size ≤ 16))) := by show _ = _; unfold okB; rw [HL.out, decide_eq_true (Nat.zero_le _), Bool.and_true]
   obtain ⟨B0, hB0⟩ : ∃ b : Bool, (decide (1 ≤ s_s.size) && decide (s_s.size ≤ 16)) = b := ⟨_, rfl⟩
   have HB0 : Hid (B0 = okB (bytesOf s_s) 0) := by show _ = _; rw [H0.out, hB0]
   clear H0
   have key : ∀ X : Prop, X → X := fun _ h => h
   by_cases h1 : 1 ≤ s_s.size
   · by_cases h16 : s_s.size ≤ 16
     · obtain rfl : B0 = true := by rw [← hB0, decide_eq_true h1, decide_eq_true h16]; rfl
       have h16i : (s_s.size : Int) ≤ 16 := by omega
       have h1i : (1 : Int) ≤ (s_s.size : Int) := by omega
       clear hB0
       go_wp2
       go_loopw [3, 4] (fun bv iv wr => ∃ (k : Nat) (b : Bool), k ≤ s_s.size ∧ bv = .bool b ∧ iv = .int .i64 (k : Int) ∧ Hid (b = okB (bytesOf s_s) k) ∧ w = wr) (fun _ iv _ => s_s.size - (intOf iv).toNat)
       case atStart => exact ⟨0, _, Nat.zero_le _, rfl, rfl, HB0, rfl⟩
       case round =>
        obtain ⟨k, b, hk, rfl, rfl, HK, rfl⟩ := hrel
        by_cases hlt : k < s_s.size
        · obtain ⟨d, hd⟩ : ∃ d, (s_s[k]'hlt).toNat = d := ⟨_, rfl⟩
          have HS : Hid (okB (bytesOf s_s) (k + 1) = (b && wdAt k d)) := by show _ = _; rw [HK.out]; exact okB_step (by rw [HL.out]; exact hlt) (by rw [← Limb.byte_at s_s k hlt, hd])
          clear HK
          cases b with
          | false =>
           as_aux_lemma =>
            go_wp2
            exact ⟨⟨k + 1, false, by omega, rfl, by go_num, by show _ = _; rw [HS.out]; rfl, by first | rfl | trivial⟩, by simp [intOf]; omega⟩
          | true =>
           as_aux_lemma =>
            have e95 : ((d : Int) == 95) = decide (d = 95) := by rw [Bool.eq_iff_iff]; simp; omega
            go_wp2
            all_goals refine ⟨⟨k + 1, _, by omega, rfl, by go_num, ?_, by first | rfl | trivial⟩, by simp [intOf]; omega⟩
            all_goals (show _ = _; rw [HS.out, Bool.true_and]; unfold wdAt isLt isDig; grind)
        · obtain rfl : k = s_s.size := by omega
          clear hlt hk
          have HW : Hid (b = isWdB (bytesOf s_s)) := by show _ = _; rw [HK.out, ← okB_all, HL.out]
          clear HK
          by_cases hw : isWdB (bytesOf s_s) = true
          · have HWb := Lib.hid hw
            obtain rfl : b = true := HW.out.trans hw
            have HV : Hid (lexV (bytesOf s_s) = ([(1, bytesOf s_s, 0)], 0, 0)) := lexV_ok (by rw [HL.out]; omega) (word_one hw)
            clear hw HW
            by_cases g1 : bytesOf s_s = [117, 110, 105, 116]
            · as_aux_lemma =>
               have bw := bel_refl w
               have f1 : (s_s.toList == ([117, 110, 105, 116] : List UInt8)) = true := (own_eq s_s [117, 110, 105, 116] (by decide)).trans (decide_eq_true g1)
               have HN : Hid (isNam (bytesOf s_s) = false) := by show _ = _; rw [g1]; decide
               clear g1
               go_wp2_with fail
               refine (lkTokens_c s_s (by omega) w (HT0.out.below bw) [(1, bytesOf s_s, 0)] (0) (0) HV.out).mono ?_
               rintro e w11 ⟨A_l, n_l, c_l, rfl, h_tl, bn⟩
               replace bw := below_two bw bn
               clear bn
               obtain rfl : n_l = 1 := h_tl.1
               have HU_f := Lib.hid (fitsF (0) (0))
               have h_rf := rowA_new w11 26 (fltC (0) (0))
               have bn := below_new w11 (.cells (fltC (0) (0)) 26)
               replace h_tl := h_tl.below bn
               replace bw := below_two bw bn
               clear bn
               have k0_f := h_rf.cell (k := 0) (v := .int .i64 (0)) rfl
               obtain ⟨g_l, ea, hg_l, hc_l⟩ := h_tl.blk (by simp)
               subst ea
               have hn_l : 1 ≤ c_l := h_tl.2.1
               have hI : InV (w11.alloc (.cells (fltC (0) (0)) 26)) g_l 0 (tkC 1 s_s 0) := by have h := h_tl.inv (i := 0) (t := (1, bytesOf s_s, 0)) rfl; unfold tkV at h; rw [strOf_bytesOf] at h; exact h
               have HMt := Lib.hid (many3v 1 s_s 0)
               have heq := fun W => equal_tk (k := 1) (k' := 1) (s := s_s) (s' := s_s) (a := 0) (a' := 0) (b := true) (by simp) W
               have HI_tk := Lib.hid (hI)
               go_wp2_with (first | (refine wpList_loadV (by rfl) _ _ (by rfl) _ _ (by rfl) _ (by assumption) (by assumption) ?_) | (refine wpList_storeNew (by rfl) _ _ _ (by rfl) _ _ _ (by rfl) (by rfl) (by assumption) ?_))
               clear HI_tk k0_f heq
               generalize w11.alloc (.cells (fltC (0) (0)) 26) = w12 at *
               obtain ⟨q_f, eg⟩ : ∃ g, g = w11.heap.size := ⟨_, rfl⟩
               rw [← eg] at h_rf ⊢
               clear eg
               have HTn : Hid (NTab w12) := (HT0.out.below bw).2
               refine (lkIsName_c s_s (by omega) w12 HTn.out false HN.out).mono ?_
               rintro e wx ⟨rfl, rfl⟩
               go_wp2_with fail
               refine (wakes_any w12 (Lib.hid (HT0.out.below bw))).mono ?_
               rintro e w13 ⟨rfl, bn⟩
               replace h_tl := h_tl.below bn
               replace h_rf := h_rf.below bn
               replace bw := below_two bw bn
               clear bn
               go_wp2
               go_ret
               exact ⟨by first | rfl | simp, bw⟩
            · have u1 := trivial
              by_cases g2 : bytesOf s_s = [115, 111, 117, 114, 99, 101]
              · as_aux_lemma =>
                 have bw := bel_refl w
                 have f1 : (s_s.toList == ([117, 110, 105, 116] : List UInt8)) = false := (own_eq s_s [117, 110, 105, 116] (by decide)).trans (decide_eq_false g1)
                 have f2 : (s_s.toList == ([115, 111, 117, 114, 99, 101] : List UInt8)) = true := (own_eq s_s [115, 111, 117, 114, 99, 101] (by decide)).trans (decide_eq_true g2)
                 have HN : Hid (isNam (bytesOf s_s) = false) := by show _ = _; rw [g2]; decide
                 clear g1 g2
                 go_wp2_with fail
                 refine (lkTokens_c s_s (by omega) w (HT0.out.below bw) [(1, bytesOf s_s, 0)] (0) (0) HV.out).mono ?_
                 rintro e w11 ⟨A_l, n_l, c_l, rfl, h_tl, bn⟩
                 replace bw := below_two bw bn
                 clear bn
                 obtain rfl : n_l = 1 := h_tl.1
                 have HU_f := Lib.hid (fitsF (0) (0))
                 have h_rf := rowA_new w11 26 (fltC (0) (0))
                 have bn := below_new w11 (.cells (fltC (0) (0)) 26)
                 replace h_tl := h_tl.below bn
                 replace bw := below_two bw bn
                 clear bn
                 have k0_f := h_rf.cell (k := 0) (v := .int .i64 (0)) rfl
                 obtain ⟨g_l, ea, hg_l, hc_l⟩ := h_tl.blk (by simp)
                 subst ea
                 have hn_l : 1 ≤ c_l := h_tl.2.1
                 have hI : InV (w11.alloc (.cells (fltC (0) (0)) 26)) g_l 0 (tkC 1 s_s 0) := by have h := h_tl.inv (i := 0) (t := (1, bytesOf s_s, 0)) rfl; unfold tkV at h; rw [strOf_bytesOf] at h; exact h
                 have HMt := Lib.hid (many3v 1 s_s 0)
                 have heq := fun W => equal_tk (k := 1) (k' := 1) (s := s_s) (s' := s_s) (a := 0) (a' := 0) (b := true) (by simp) W
                 have HI_tk := Lib.hid (hI)
                 go_wp2_with (first | (refine wpList_loadV (by rfl) _ _ (by rfl) _ _ (by rfl) _ (by assumption) (by assumption) ?_) | (refine wpList_storeNew (by rfl) _ _ _ (by rfl) _ _ _ (by rfl) (by rfl) (by assumption) ?_))
                 clear HI_tk k0_f heq
                 generalize w11.alloc (.cells (fltC (0) (0)) 26) = w12 at *
                 obtain ⟨q_f, eg⟩ : ∃ g, g = w11.heap.size := ⟨_, rfl⟩
                 rw [← eg] at h_rf ⊢
                 clear eg
                 have HTn : Hid (NTab w12) := (HT0.out.below bw).2
                 refine (lkIsName_c s_s (by omega) w12 HTn.out false HN.out).mono ?_
                 rintro e wx ⟨rfl, rfl⟩
                 go_wp2_with fail
                 refine (wakes_any w12 (Lib.hid (HT0.out.below bw))).mono ?_
                 rintro e w13 ⟨rfl, bn⟩
                 replace h_tl := h_tl.below bn
                 replace h_rf := h_rf.below bn
                 replace bw := below_two bw bn
                 clear bn
                 go_wp2
                 go_ret
                 exact ⟨by first | rfl | simp, bw⟩
              · have u2 := trivial
                by_cases g3 : bytesOf s_s = [99, 111, 118]
                · as_aux_lemma =>
                   have bw := bel_refl w
                   have f1 : (s_s.toList == ([117, 110, 105, 116] : List UInt8)) = false := (own_eq s_s [117, 110, 105, 116] (by decide)).trans (decide_eq_false g1)
                   have f2 : (s_s.toList == ([115, 111, 117, 114, 99, 101] : List UInt8)) = false := (own_eq s_s [115, 111, 117, 114, 99, 101] (by decide)).trans (decide_eq_false g2)
                   have f3 : (s_s.toList == ([99, 111, 118] : List UInt8)) = true := (own_eq s_s [99, 111, 118] (by decide)).trans (decide_eq_true g3)
                   have HN : Hid (isNam (bytesOf s_s) = false) := by show _ = _; rw [g3]; decide
                   clear g1 g2 g3
                   go_wp2_with fail
                   refine (lkTokens_c s_s (by omega) w (HT0.out.below bw) [(1, bytesOf s_s, 0)] (0) (0) HV.out).mono ?_
                   rintro e w11 ⟨A_l, n_l, c_l, rfl, h_tl, bn⟩
                   replace bw := below_two bw bn
                   clear bn
                   obtain rfl : n_l = 1 := h_tl.1
                   have HU_f := Lib.hid (fitsF (0) (0))
                   have h_rf := rowA_new w11 26 (fltC (0) (0))
                   have bn := below_new w11 (.cells (fltC (0) (0)) 26)
                   replace h_tl := h_tl.below bn
                   replace bw := below_two bw bn
                   clear bn
                   have k0_f := h_rf.cell (k := 0) (v := .int .i64 (0)) rfl
                   obtain ⟨g_l, ea, hg_l, hc_l⟩ := h_tl.blk (by simp)
                   subst ea
                   have hn_l : 1 ≤ c_l := h_tl.2.1
                   have hI : InV (w11.alloc (.cells (fltC (0) (0)) 26)) g_l 0 (tkC 1 s_s 0) := by have h := h_tl.inv (i := 0) (t := (1, bytesOf s_s, 0)) rfl; unfold tkV at h; rw [strOf_bytesOf] at h; exact h
                   have HMt := Lib.hid (many3v 1 s_s 0)
                   have heq := fun W => equal_tk (k := 1) (k' := 1) (s := s_s) (s' := s_s) (a := 0) (a' := 0) (b := true) (by simp) W
                   have HI_tk := Lib.hid (hI)
                   go_wp2_with (first | (refine wpList_loadV (by rfl) _ _ (by rfl) _ _ (by rfl) _ (by assumption) (by assumption) ?_) | (refine wpList_storeNew (by rfl) _ _ _ (by rfl) _ _ _ (by rfl) (by rfl) (by assumption) ?_))
                   clear HI_tk k0_f heq
                   generalize w11.alloc (.cells (fltC (0) (0)) 26) = w12 at *
                   obtain ⟨q_f, eg⟩ : ∃ g, g = w11.heap.size := ⟨_, rfl⟩
                   rw [← eg] at h_rf ⊢
                   clear eg
                   have HTn : Hid (NTab w12) := (HT0.out.below bw).2
                   refine (lkIsName_c s_s (by omega) w12 HTn.out false HN.out).mono ?_
                   rintro e wx ⟨rfl, rfl⟩
                   go_wp2_with fail
                   refine (wakes_any w12 (Lib.hid (HT0.out.below bw))).mono ?_
                   rintro e w13 ⟨rfl, bn⟩
                   replace h_tl := h_tl.below bn
                   replace h_rf := h_rf.below bn
                   replace bw := below_two bw bn
                   clear bn
                   go_wp2
                   go_ret
                   exact ⟨by first | rfl | simp, bw⟩
                · have u3 := trivial
                  by_cases g4 : bytesOf s_s = [108, 101, 116]
                  · as_aux_lemma =>
                     have bw := bel_refl w
                     have f1 : (s_s.toList == ([117, 110, 105, 116] : List UInt8)) = false := (own_eq s_s [117, 110, 105, 116] (by decide)).trans (decide_eq_false g1)
                     have f2 : (s_s.toList == ([115, 111, 117, 114, 99, 101] : List UInt8)) = false := (own_eq s_s [115, 111, 117, 114, 99, 101] (by decide)).trans (decide_eq_false g2)
                     have f3 : (s_s.toList == ([99, 111, 118] : List UInt8)) = false := (own_eq s_s [99, 111, 118] (by decide)).trans (decide_eq_false g3)
                     have f4 : (s_s.toList == ([108, 101, 116] : List UInt8)) = true := (own_eq s_s [108, 101, 116] (by decide)).trans (decide_eq_true g4)
                     have HN : Hid (isNam (bytesOf s_s) = false) := by show _ = _; rw [g4]; decide
                     clear g1 g2 g3 g4
                     go_wp2_with fail
                     refine (lkTokens_c s_s (by omega) w (HT0.out.below bw) [(1, bytesOf s_s, 0)] (0) (0) HV.out).mono ?_
                     rintro e w11 ⟨A_l, n_l, c_l, rfl, h_tl, bn⟩
                     replace bw := below_two bw bn
                     clear bn
                     obtain rfl : n_l = 1 := h_tl.1
                     have HU_f := Lib.hid (fitsF (0) (0))
                     have h_rf := rowA_new w11 26 (fltC (0) (0))
                     have bn := below_new w11 (.cells (fltC (0) (0)) 26)
                     replace h_tl := h_tl.below bn
                     replace bw := below_two bw bn
                     clear bn
                     have k0_f := h_rf.cell (k := 0) (v := .int .i64 (0)) rfl
                     obtain ⟨g_l, ea, hg_l, hc_l⟩ := h_tl.blk (by simp)
                     subst ea
                     have hn_l : 1 ≤ c_l := h_tl.2.1
                     have hI : InV (w11.alloc (.cells (fltC (0) (0)) 26)) g_l 0 (tkC 1 s_s 0) := by have h := h_tl.inv (i := 0) (t := (1, bytesOf s_s, 0)) rfl; unfold tkV at h; rw [strOf_bytesOf] at h; exact h
                     have HMt := Lib.hid (many3v 1 s_s 0)
                     have heq := fun W => equal_tk (k := 1) (k' := 1) (s := s_s) (s' := s_s) (a := 0) (a' := 0) (b := true) (by simp) W
                     have HI_tk := Lib.hid (hI)
                     go_wp2_with (first | (refine wpList_loadV (by rfl) _ _ (by rfl) _ _ (by rfl) _ (by assumption) (by assumption) ?_) | (refine wpList_storeNew (by rfl) _ _ _ (by rfl) _ _ _ (by rfl) (by rfl) (by assumption) ?_))
                     clear HI_tk k0_f heq
                     generalize w11.alloc (.cells (fltC (0) (0)) 26) = w12 at *
                     obtain ⟨q_f, eg⟩ : ∃ g, g = w11.heap.size := ⟨_, rfl⟩
                     rw [← eg] at h_rf ⊢
                     clear eg
                     have HTn : Hid (NTab w12) := (HT0.out.below bw).2
                     refine (lkIsName_c s_s (by omega) w12 HTn.out false HN.out).mono ?_
                     rintro e wx ⟨rfl, rfl⟩
                     go_wp2_with fail
                     refine (wakes_any w12 (Lib.hid (HT0.out.below bw))).mono ?_
                     rintro e w13 ⟨rfl, bn⟩
                     replace h_tl := h_tl.below bn
                     replace h_rf := h_rf.below bn
                     replace bw := below_two bw bn
                     clear bn
                     go_wp2
                     go_ret
                     exact ⟨by first | rfl | simp, bw⟩
                  · have u4 := trivial
                    by_cases g5 : bytesOf s_s = [111, 117, 116, 112, 117, 116]
                    · as_aux_lemma =>
                       have bw := bel_refl w
                       have f1 : (s_s.toList == ([117, 110, 105, 116] : List UInt8)) = false := (own_eq s_s [117, 110, 105, 116] (by decide)).trans (decide_eq_false g1)
                       have f2 : (s_s.toList == ([115, 111, 117, 114, 99, 101] : List UInt8)) = false := (own_eq s_s [115, 111, 117, 114, 99, 101] (by decide)).trans (decide_eq_false g2)
                       have f3 : (s_s.toList == ([99, 111, 118] : List UInt8)) = false := (own_eq s_s [99, 111, 118] (by decide)).trans (decide_eq_false g3)
                       have f4 : (s_s.toList == ([108, 101, 116] : List UInt8)) = false := (own_eq s_s [108, 101, 116] (by decide)).trans (decide_eq_false g4)
                       have f5 : (s_s.toList == ([111, 117, 116, 112, 117, 116] : List UInt8)) = true := (own_eq s_s [111, 117, 116, 112, 117, 116] (by decide)).trans (decide_eq_true g5)
                       have HN : Hid (isNam (bytesOf s_s) = false) := by show _ = _; rw [g5]; decide
                       clear g1 g2 g3 g4 g5
                       go_wp2_with fail
                       refine (lkTokens_c s_s (by omega) w (HT0.out.below bw) [(1, bytesOf s_s, 0)] (0) (0) HV.out).mono ?_
                       rintro e w11 ⟨A_l, n_l, c_l, rfl, h_tl, bn⟩
                       replace bw := below_two bw bn
                       clear bn
                       obtain rfl : n_l = 1 := h_tl.1
                       have HU_f := Lib.hid (fitsF (0) (0))
                       have h_rf := rowA_new w11 26 (fltC (0) (0))
                       have bn := below_new w11 (.cells (fltC (0) (0)) 26)
                       replace h_tl := h_tl.below bn
                       replace bw := below_two bw bn
                       clear bn
                       have k0_f := h_rf.cell (k := 0) (v := .int .i64 (0)) rfl
                       obtain ⟨g_l, ea, hg_l, hc_l⟩ := h_tl.blk (by simp)
                       subst ea
                       have hn_l : 1 ≤ c_l := h_tl.2.1
                       have hI : InV (w11.alloc (.cells (fltC (0) (0)) 26)) g_l 0 (tkC 1 s_s 0) := by have h := h_tl.inv (i := 0) (t := (1, bytesOf s_s, 0)) rfl; unfold tkV at h; rw [strOf_bytesOf] at h; exact h
                       have HMt := Lib.hid (many3v 1 s_s 0)
                       have heq := fun W => equal_tk (k := 1) (k' := 1) (s := s_s) (s' := s_s) (a := 0) (a' := 0) (b := true) (by simp) W
                       have HI_tk := Lib.hid (hI)
                       go_wp2_with (first | (refine wpList_loadV (by rfl) _ _ (by rfl) _ _ (by rfl) _ (by assumption) (by assumption) ?_) | (refine wpList_storeNew (by rfl) _ _ _ (by rfl) _ _ _ (by rfl) (by rfl) (by assumption) ?_))
                       clear HI_tk k0_f heq
                       generalize w11.alloc (.cells (fltC (0) (0)) 26) = w12 at *
                       obtain ⟨q_f, eg⟩ : ∃ g, g = w11.heap.size := ⟨_, rfl⟩
                       rw [← eg] at h_rf ⊢
                       clear eg
                       have HTn : Hid (NTab w12) := (HT0.out.below bw).2
                       refine (lkIsName_c s_s (by omega) w12 HTn.out false HN.out).mono ?_
                       rintro e wx ⟨rfl, rfl⟩
                       go_wp2_with fail
                       refine (wakes_any w12 (Lib.hid (HT0.out.below bw))).mono ?_
                       rintro e w13 ⟨rfl, bn⟩
                       replace h_tl := h_tl.below bn
                       replace h_rf := h_rf.below bn
                       replace bw := below_two bw bn
                       clear bn
                       go_wp2
                       go_ret
                       exact ⟨by first | rfl | simp, bw⟩
                    · have u5 := trivial
                      by_cases g6 : bytesOf s_s = [105, 110]
                      · as_aux_lemma =>
                         have bw := bel_refl w
                         have f1 : (s_s.toList == ([117, 110, 105, 116] : List UInt8)) = false := (own_eq s_s [117, 110, 105, 116] (by decide)).trans (decide_eq_false g1)
                         have f2 : (s_s.toList == ([115, 111, 117, 114, 99, 101] : List UInt8)) = false := (own_eq s_s [115, 111, 117, 114, 99, 101] (by decide)).trans (decide_eq_false g2)
                         have f3 : (s_s.toList == ([99, 111, 118] : List UInt8)) = false := (own_eq s_s [99, 111, 118] (by decide)).trans (decide_eq_false g3)
                         have f4 : (s_s.toList == ([108, 101, 116] : List UInt8)) = false := (own_eq s_s [108, 101, 116] (by decide)).trans (decide_eq_false g4)
                         have f5 : (s_s.toList == ([111, 117, 116, 112, 117, 116] : List UInt8)) = false := (own_eq s_s [111, 117, 116, 112, 117, 116] (by decide)).trans (decide_eq_false g5)
                         have f6 : (s_s.toList == ([105, 110] : List UInt8)) = true := (own_eq s_s [105, 110] (by decide)).trans (decide_eq_true g6)
                         have HN : Hid (isNam (bytesOf s_s) = false) := by show _ = _; rw [g6]; decide
                         clear g1 g2 g3 g4 g5 g6
                         go_wp2_with fail
                         refine (lkTokens_c s_s (by omega) w (HT0.out.below bw) [(1, bytesOf s_s, 0)] (0) (0) HV.out).mono ?_
                         rintro e w11 ⟨A_l, n_l, c_l, rfl, h_tl, bn⟩
                         replace bw := below_two bw bn
                         clear bn
                         obtain rfl : n_l = 1 := h_tl.1
                         have HU_f := Lib.hid (fitsF (0) (0))
                         have h_rf := rowA_new w11 26 (fltC (0) (0))
                         have bn := below_new w11 (.cells (fltC (0) (0)) 26)
                         replace h_tl := h_tl.below bn
                         replace bw := below_two bw bn
                         clear bn
                         have k0_f := h_rf.cell (k := 0) (v := .int .i64 (0)) rfl
                         obtain ⟨g_l, ea, hg_l, hc_l⟩ := h_tl.blk (by simp)
                         subst ea
                         have hn_l : 1 ≤ c_l := h_tl.2.1
                         have hI : InV (w11.alloc (.cells (fltC (0) (0)) 26)) g_l 0 (tkC 1 s_s 0) := by have h := h_tl.inv (i := 0) (t := (1, bytesOf s_s, 0)) rfl; unfold tkV at h; rw [strOf_bytesOf] at h; exact h
                         have HMt := Lib.hid (many3v 1 s_s 0)
                         have heq := fun W => equal_tk (k := 1) (k' := 1) (s := s_s) (s' := s_s) (a := 0) (a' := 0) (b := true) (by simp) W
                         have HI_tk := Lib.hid (hI)
                         go_wp2_with (first | (refine wpList_loadV (by rfl) _ _ (by rfl) _ _ (by rfl) _ (by assumption) (by assumption) ?_) | (refine wpList_storeNew (by rfl) _ _ _ (by rfl) _ _ _ (by rfl) (by rfl) (by assumption) ?_))
                         clear HI_tk k0_f heq
                         generalize w11.alloc (.cells (fltC (0) (0)) 26) = w12 at *
                         obtain ⟨q_f, eg⟩ : ∃ g, g = w11.heap.size := ⟨_, rfl⟩
                         rw [← eg] at h_rf ⊢
                         clear eg
                         have HTn : Hid (NTab w12) := (HT0.out.below bw).2
                         refine (lkIsName_c s_s (by omega) w12 HTn.out false HN.out).mono ?_
                         rintro e wx ⟨rfl, rfl⟩
                         go_wp2_with fail
                         refine (wakes_any w12 (Lib.hid (HT0.out.below bw))).mono ?_
                         rintro e w13 ⟨rfl, bn⟩
                         replace h_tl := h_tl.below bn
                         replace h_rf := h_rf.below bn
                         replace bw := below_two bw bn
                         clear bn
                         go_wp2
                         go_ret
                         exact ⟨by first | rfl | simp, bw⟩
                      · have u6 := trivial
                        have HO : Hid (ownW (bytesOf s_s) = false) := by show _ = _; unfold ownW; simp only [List.contains_cons, List.contains_nil, Bool.or_false, Bool.or_eq_false_iff, beq_eq_false_iff_ne]; exact ⟨g1, g2, g3, g4, g5, g6⟩
                        as_aux_lemma =>
                         have bw := bel_refl w
                         have f1 : (s_s.toList == ([117, 110, 105, 116] : List UInt8)) = false := (own_eq s_s [117, 110, 105, 116] (by decide)).trans (decide_eq_false g1)
                         have f2 : (s_s.toList == ([115, 111, 117, 114, 99, 101] : List UInt8)) = false := (own_eq s_s [115, 111, 117, 114, 99, 101] (by decide)).trans (decide_eq_false g2)
                         have f3 : (s_s.toList == ([99, 111, 118] : List UInt8)) = false := (own_eq s_s [99, 111, 118] (by decide)).trans (decide_eq_false g3)
                         have f4 : (s_s.toList == ([108, 101, 116] : List UInt8)) = false := (own_eq s_s [108, 101, 116] (by decide)).trans (decide_eq_false g4)
                         have f5 : (s_s.toList == ([111, 117, 116, 112, 117, 116] : List UInt8)) = false := (own_eq s_s [111, 117, 116, 112, 117, 116] (by decide)).trans (decide_eq_false g5)
                         have f6 : (s_s.toList == ([105, 110] : List UInt8)) = false := (own_eq s_s [105, 110] (by decide)).trans (decide_eq_false g6)
                         have HN : Hid (isNam (bytesOf s_s) = true) := by show _ = _; unfold isNam; rw [HWb.out, HO.out]; rfl
                         clear g1 g2 g3 g4 g5 g6
                         go_wp2_with fail
                         refine (lkTokens_c s_s (by omega) w (HT0.out.below bw) [(1, bytesOf s_s, 0)] (0) (0) HV.out).mono ?_
                         rintro e w11 ⟨A_l, n_l, c_l, rfl, h_tl, bn⟩
                         replace bw := below_two bw bn
                         clear bn
                         obtain rfl : n_l = 1 := h_tl.1
                         have HU_f := Lib.hid (fitsF (0) (0))
                         have h_rf := rowA_new w11 26 (fltC (0) (0))
                         have bn := below_new w11 (.cells (fltC (0) (0)) 26)
                         replace h_tl := h_tl.below bn
                         replace bw := below_two bw bn
                         clear bn
                         have k0_f := h_rf.cell (k := 0) (v := .int .i64 (0)) rfl
                         obtain ⟨g_l, ea, hg_l, hc_l⟩ := h_tl.blk (by simp)
                         subst ea
                         have hn_l : 1 ≤ c_l := h_tl.2.1
                         have hI : InV (w11.alloc (.cells (fltC (0) (0)) 26)) g_l 0 (tkC 1 s_s 0) := by have h := h_tl.inv (i := 0) (t := (1, bytesOf s_s, 0)) rfl; unfold tkV at h; rw [strOf_bytesOf] at h; exact h
                         have HMt := Lib.hid (many3v 1 s_s 0)
                         have heq := fun W => equal_tk (k := 1) (k' := 1) (s := s_s) (s' := s_s) (a := 0) (a' := 0) (b := true) (by simp) W
                         have HI_tk := Lib.hid (hI)
                         go_wp2_with (first | (refine wpList_loadV (by rfl) _ _ (by rfl) _ _ (by rfl) _ (by assumption) (by assumption) ?_) | (refine wpList_storeNew (by rfl) _ _ _ (by rfl) _ _ _ (by rfl) (by rfl) (by assumption) ?_))
                         clear HI_tk k0_f heq
                         generalize w11.alloc (.cells (fltC (0) (0)) 26) = w12 at *
                         obtain ⟨q_f, eg⟩ : ∃ g, g = w11.heap.size := ⟨_, rfl⟩
                         rw [← eg] at h_rf ⊢
                         clear eg
                         have HTn : Hid (NTab w12) := (HT0.out.below bw).2
                         refine (lkIsName_c s_s (by omega) w12 HTn.out true HN.out).mono ?_
                         rintro e wx ⟨rfl, rfl⟩
                         go_wp2_with fail
                         refine (wakes_any w12 (Lib.hid (HT0.out.below bw))).mono ?_
                         rintro e w13 ⟨rfl, bn⟩
                         replace h_tl := h_tl.below bn
                         replace h_rf := h_rf.below bn
                         replace bw := below_two bw bn
                         clear bn
                         go_wp2
                         go_ret
                         exact ⟨by first | rfl | simp, bw⟩
          · have hw2 : isWdB (bytesOf s_s) = false := by simpa using hw
            have HWb := Lib.hid hw2
            obtain rfl : b = false := HW.out.trans hw2
            have HO := Lib.hid (own_wd hw2)
            obtain ⟨g1, g2, g3, g4, g5, g6⟩ := no_own HO.out
            clear hw HW hw2
            cases hV : lexT (bytesOf s_s) with
            | bad p =>
             have HV := Lib.hid (lexV_bad (by rw [HL.out]; omega) hV)
             clear hV
             as_aux_lemma =>
              have bw := bel_refl w
              have f1 : (s_s.toList == ([117, 110, 105, 116] : List UInt8)) = false := (own_eq s_s [117, 110, 105, 116] (by decide)).trans (decide_eq_false g1)
              have f2 : (s_s.toList == ([115, 111, 117, 114, 99, 101] : List UInt8)) = false := (own_eq s_s [115, 111, 117, 114, 99, 101] (by decide)).trans (decide_eq_false g2)
              have f3 : (s_s.toList == ([99, 111, 118] : List UInt8)) = false := (own_eq s_s [99, 111, 118] (by decide)).trans (decide_eq_false g3)
              have f4 : (s_s.toList == ([108, 101, 116] : List UInt8)) = false := (own_eq s_s [108, 101, 116] (by decide)).trans (decide_eq_false g4)
              have f5 : (s_s.toList == ([111, 117, 116, 112, 117, 116] : List UInt8)) = false := (own_eq s_s [111, 117, 116, 112, 117, 116] (by decide)).trans (decide_eq_false g5)
              have f6 : (s_s.toList == ([105, 110] : List UInt8)) = false := (own_eq s_s [105, 110] (by decide)).trans (decide_eq_false g6)
              have HN : Hid (isNam (bytesOf s_s) = false) := by show _ = _; unfold isNam; rw [HWb.out]; rfl
              clear g1 g2 g3 g4 g5 g6
              go_wp2_with fail
              refine (lkTokens_c s_s (by omega) w (HT0.out.below bw) [] (11) ((p : Int)) HV.out).mono ?_
              rintro e w11 ⟨A_l, n_l, c_l, rfl, h_tl, bn⟩
              replace bw := below_two bw bn
              clear bn
              obtain rfl : n_l = 0 := h_tl.1
              have HU_f := Lib.hid (fitsF (11) ((p : Int)))
              have h_rf := rowA_new w11 26 (fltC (11) ((p : Int)))
              have bn := below_new w11 (.cells (fltC (11) ((p : Int))) 26)
              replace h_tl := h_tl.below bn
              replace bw := below_two bw bn
              clear bn
              have k0_f := h_rf.cell (k := 0) (v := .int .i64 (11)) rfl
              go_wp2_with (refine wpList_storeNew (by rfl) _ _ _ (by rfl) _ _ _ (by rfl) (by rfl) (by assumption) ?_)
              clear k0_f
              generalize w11.alloc (.cells (fltC (11) ((p : Int))) 26) = w12 at *
              obtain ⟨q_f, eg⟩ : ∃ g, g = w11.heap.size := ⟨_, rfl⟩
              rw [← eg] at h_rf ⊢
              clear eg
              have HTn : Hid (NTab w12) := (HT0.out.below bw).2
              refine (lkIsName_c s_s (by omega) w12 HTn.out false HN.out).mono ?_
              rintro e wx ⟨rfl, rfl⟩
              go_wp2_with fail
              refine (wakes_any w12 (Lib.hid (HT0.out.below bw))).mono ?_
              rintro e w13 ⟨rfl, bn⟩
              replace h_tl := h_tl.below bn
              replace h_rf := h_rf.below bn
              replace bw := below_two bw bn
              clear bn
              go_wp2
              go_ret
              exact ⟨by first | rfl | simp, bw⟩
            | ok ts =>
             have HV := Lib.hid (lexV_ok (by rw [HL.out]; omega) hV)
             by_cases ht : ts.length = 1
             · obtain ⟨t, rfl⟩ : ∃ t, ts = [t] := List.length_eq_one_iff.1 ht
               have HNe := Lib.hid (one_not HWb.out hV s_s rfl)
               clear hV ht
               as_aux_lemma =>
                have bw := bel_refl w
                have f1 : (s_s.toList == ([117, 110, 105, 116] : List UInt8)) = false := (own_eq s_s [117, 110, 105, 116] (by decide)).trans (decide_eq_false g1)
                have f2 : (s_s.toList == ([115, 111, 117, 114, 99, 101] : List UInt8)) = false := (own_eq s_s [115, 111, 117, 114, 99, 101] (by decide)).trans (decide_eq_false g2)
                have f3 : (s_s.toList == ([99, 111, 118] : List UInt8)) = false := (own_eq s_s [99, 111, 118] (by decide)).trans (decide_eq_false g3)
                have f4 : (s_s.toList == ([108, 101, 116] : List UInt8)) = false := (own_eq s_s [108, 101, 116] (by decide)).trans (decide_eq_false g4)
                have f5 : (s_s.toList == ([111, 117, 116, 112, 117, 116] : List UInt8)) = false := (own_eq s_s [111, 117, 116, 112, 117, 116] (by decide)).trans (decide_eq_false g5)
                have f6 : (s_s.toList == ([105, 110] : List UInt8)) = false := (own_eq s_s [105, 110] (by decide)).trans (decide_eq_false g6)
                have HN : Hid (isNam (bytesOf s_s) = false) := by show _ = _; unfold isNam; rw [HWb.out]; rfl
                clear g1 g2 g3 g4 g5 g6
                go_wp2_with fail
                refine (lkTokens_c s_s (by omega) w (HT0.out.below bw) [t] (0) (0) HV.out).mono ?_
                rintro e w11 ⟨A_l, n_l, c_l, rfl, h_tl, bn⟩
                replace bw := below_two bw bn
                clear bn
                obtain rfl : n_l = 1 := h_tl.1
                have HU_f := Lib.hid (fitsF (0) (0))
                have h_rf := rowA_new w11 26 (fltC (0) (0))
                have bn := below_new w11 (.cells (fltC (0) (0)) 26)
                replace h_tl := h_tl.below bn
                replace bw := below_two bw bn
                clear bn
                have k0_f := h_rf.cell (k := 0) (v := .int .i64 (0)) rfl
                obtain ⟨g_l, ea, hg_l, hc_l⟩ := h_tl.blk (by simp)
                subst ea
                have hn_l : 1 ≤ c_l := h_tl.2.1
                have hI : InV (w11.alloc (.cells (fltC (0) (0)) 26)) g_l 0 (tkC (t.1 : Int) (strOf t.2.1) (t.2.2 : Int)) := h_tl.inv (i := 0) (t := t) rfl
                have HMt := Lib.hid (many3v (t.1 : Int) (strOf t.2.1) (t.2.2 : Int))
                have heq := fun W => equal_tk (k := (t.1 : Int)) (k' := 1) (s := strOf t.2.1) (s' := s_s) (a := (t.2.2 : Int)) (a' := 0) (b := false) HNe.out W
                have HI_tk := Lib.hid (hI)
                go_wp2_with (first | (refine wpList_loadV (by rfl) _ _ (by rfl) _ _ (by rfl) _ (by assumption) (by assumption) ?_) | (refine wpList_storeNew (by rfl) _ _ _ (by rfl) _ _ _ (by rfl) (by rfl) (by assumption) ?_))
                clear HI_tk k0_f heq
                generalize w11.alloc (.cells (fltC (0) (0)) 26) = w12 at *
                obtain ⟨q_f, eg⟩ : ∃ g, g = w11.heap.size := ⟨_, rfl⟩
                rw [← eg] at h_rf ⊢
                clear eg
                have HTn : Hid (NTab w12) := (HT0.out.below bw).2
                refine (lkIsName_c s_s (by omega) w12 HTn.out false HN.out).mono ?_
                rintro e wx ⟨rfl, rfl⟩
                go_wp2_with fail
                refine (wakes_any w12 (Lib.hid (HT0.out.below bw))).mono ?_
                rintro e w13 ⟨rfl, bn⟩
                replace h_tl := h_tl.below bn
                replace h_rf := h_rf.below bn
                replace bw := below_two bw bn
                clear bn
                go_wp2
                go_ret
                exact ⟨by first | rfl | simp, bw⟩
             · have hts := Lib.hid ht
               clear hV ht
               as_aux_lemma =>
                have bw := bel_refl w
                have f1 : (s_s.toList == ([117, 110, 105, 116] : List UInt8)) = false := (own_eq s_s [117, 110, 105, 116] (by decide)).trans (decide_eq_false g1)
                have f2 : (s_s.toList == ([115, 111, 117, 114, 99, 101] : List UInt8)) = false := (own_eq s_s [115, 111, 117, 114, 99, 101] (by decide)).trans (decide_eq_false g2)
                have f3 : (s_s.toList == ([99, 111, 118] : List UInt8)) = false := (own_eq s_s [99, 111, 118] (by decide)).trans (decide_eq_false g3)
                have f4 : (s_s.toList == ([108, 101, 116] : List UInt8)) = false := (own_eq s_s [108, 101, 116] (by decide)).trans (decide_eq_false g4)
                have f5 : (s_s.toList == ([111, 117, 116, 112, 117, 116] : List UInt8)) = false := (own_eq s_s [111, 117, 116, 112, 117, 116] (by decide)).trans (decide_eq_false g5)
                have f6 : (s_s.toList == ([105, 110] : List UInt8)) = false := (own_eq s_s [105, 110] (by decide)).trans (decide_eq_false g6)
                have HN : Hid (isNam (bytesOf s_s) = false) := by show _ = _; unfold isNam; rw [HWb.out]; rfl
                clear g1 g2 g3 g4 g5 g6
                go_wp2_with fail
                refine (lkTokens_c s_s (by omega) w (HT0.out.below bw) ts (0) (0) HV.out).mono ?_
                rintro e w11 ⟨A_l, n_l, c_l, rfl, h_tl, bn⟩
                replace bw := below_two bw bn
                clear bn
                have HU_f := Lib.hid (fitsF (0) (0))
                have h_rf := rowA_new w11 26 (fltC (0) (0))
                have bn := below_new w11 (.cells (fltC (0) (0)) 26)
                replace h_tl := h_tl.below bn
                replace bw := below_two bw bn
                clear bn
                have k0_f := h_rf.cell (k := 0) (v := .int .i64 (0)) rfl
                have en : ((n_l : Int) == 1) = false := by have h1 := h_tl.1; have h2 := hts.out; rw [beq_eq_false_iff_ne]; omega
                go_wp2_with (refine wpList_storeNew (by rfl) _ _ _ (by rfl) _ _ _ (by rfl) (by rfl) (by assumption) ?_)
                clear k0_f en
                generalize w11.alloc (.cells (fltC (0) (0)) 26) = w12 at *
                obtain ⟨q_f, eg⟩ : ∃ g, g = w11.heap.size := ⟨_, rfl⟩
                rw [← eg] at h_rf ⊢
                clear eg
                have HTn : Hid (NTab w12) := (HT0.out.below bw).2
                refine (lkIsName_c s_s (by omega) w12 HTn.out false HN.out).mono ?_
                rintro e wx ⟨rfl, rfl⟩
                go_wp2_with fail
                refine (wakes_any w12 (Lib.hid (HT0.out.below bw))).mono ?_
                rintro e w13 ⟨rfl, bn⟩
                replace h_tl := h_tl.below bn
                replace h_rf := h_rf.below bn
                replace bw := below_two bw bn
                clear bn
                go_wp2
                go_ret
                exact ⟨by first | rfl | simp, bw⟩
     · obtain rfl : B0 = false := by rw [← hB0, decide_eq_false h16, Bool.and_false]
       have h16i : ¬ ((s_s.size : Int) ≤ 16) := by omega
       clear hB0
       go_wp2
       go_loopw [3, 4] (fun bv iv wr => ∃ (k : Nat) (b : Bool), k ≤ s_s.size ∧ bv = .bool b ∧ iv = .int .i64 (k : Int) ∧ Hid (b = okB (bytesOf s_s) k) ∧ w = wr) (fun _ iv _ => s_s.size - (intOf iv).toNat)
       case atStart => exact ⟨0, _, Nat.zero_le _, rfl, rfl, HB0, rfl⟩
       case round =>
        obtain ⟨k, b, hk, rfl, rfl, HK, rfl⟩ := hrel
        by_cases hlt : k < s_s.size
        · obtain ⟨d, hd⟩ : ∃ d, (s_s[k]'hlt).toNat = d := ⟨_, rfl⟩
          have HS : Hid (okB (bytesOf s_s) (k + 1) = (b && wdAt k d)) := by show _ = _; rw [HK.out]; exact okB_step (by rw [HL.out]; exact hlt) (by rw [← Limb.byte_at s_s k hlt, hd])
          clear HK
          cases b with
          | false =>
           as_aux_lemma =>
            go_wp2
            exact ⟨⟨k + 1, false, by omega, rfl, by go_num, by show _ = _; rw [HS.out]; rfl, by first | rfl | trivial⟩, by simp [intOf]; omega⟩
          | true =>
           as_aux_lemma =>
            have e95 : ((d : Int) == 95) = decide (d = 95) := by rw [Bool.eq_iff_iff]; simp; omega
            go_wp2
            all_goals refine ⟨⟨k + 1, _, by omega, rfl, by go_num, ?_, by first | rfl | trivial⟩, by simp [intOf]; omega⟩
            all_goals (show _ = _; rw [HS.out, Bool.true_and]; unfold wdAt isLt isDig; grind)
        · obtain rfl : k = s_s.size := by omega
          clear hlt hk
          have HW : Hid (b = isWdB (bytesOf s_s)) := by show _ = _; rw [HK.out, ← okB_all, HL.out]
          clear HK
          by_cases hw : isWdB (bytesOf s_s) = true
          · have HWb := Lib.hid hw
            obtain rfl : b = true := HW.out.trans hw
            have HV : Hid (lexV (bytesOf s_s) = ([(1, bytesOf s_s, 0)], 0, 0)) := lexV_ok (by rw [HL.out]; omega) (word_one hw)
            clear hw HW
            by_cases g1 : bytesOf s_s = [117, 110, 105, 116]
            · as_aux_lemma =>
               have bw := bel_refl w
               have f1 : (s_s.toList == ([117, 110, 105, 116] : List UInt8)) = true := (own_eq s_s [117, 110, 105, 116] (by decide)).trans (decide_eq_true g1)
               have HN : Hid (isNam (bytesOf s_s) = false) := by show _ = _; rw [g1]; decide
               clear g1
               go_wp2_with fail
               refine (lkTokens_c s_s (by omega) w (HT0.out.below bw) [(1, bytesOf s_s, 0)] (0) (0) HV.out).mono ?_
               rintro e w11 ⟨A_l, n_l, c_l, rfl, h_tl, bn⟩
               replace bw := below_two bw bn
               clear bn
               obtain rfl : n_l = 1 := h_tl.1
               have HU_f := Lib.hid (fitsF (0) (0))
               have h_rf := rowA_new w11 26 (fltC (0) (0))
               have bn := below_new w11 (.cells (fltC (0) (0)) 26)
               replace h_tl := h_tl.below bn
               replace bw := below_two bw bn
               clear bn
               have k0_f := h_rf.cell (k := 0) (v := .int .i64 (0)) rfl
               obtain ⟨g_l, ea, hg_l, hc_l⟩ := h_tl.blk (by simp)
               subst ea
               have hn_l : 1 ≤ c_l := h_tl.2.1
               have hI : InV (w11.alloc (.cells (fltC (0) (0)) 26)) g_l 0 (tkC 1 s_s 0) := by have h := h_tl.inv (i := 0) (t := (1, bytesOf s_s, 0)) rfl; unfold tkV at h; rw [strOf_bytesOf] at h; exact h
               have HMt := Lib.hid (many3v 1 s_s 0)
               have heq := fun W => equal_tk (k := 1) (k' := 1) (s := s_s) (s' := s_s) (a := 0) (a' := 0) (b := true) (by simp) W
               have HI_tk := Lib.hid (hI)
               go_wp2_with (first | (refine wpList_loadV (by rfl) _ _ (by rfl) _ _ (by rfl) _ (by assumption) (by assumption) ?_) | (refine wpList_storeNew (by rfl) _ _ _ (by rfl) _ _ _ (by rfl) (by rfl) (by assumption) ?_))
               clear HI_tk k0_f heq
               generalize w11.alloc (.cells (fltC (0) (0)) 26) = w12 at *
               obtain ⟨q_f, eg⟩ : ∃ g, g = w11.heap.size := ⟨_, rfl⟩
               rw [← eg] at h_rf ⊢
               clear eg
               have HTn : Hid (NTab w12) := (HT0.out.below bw).2
               refine (lkIsName_c s_s (by omega) w12 HTn.out false HN.out).mono ?_
               rintro e wx ⟨rfl, rfl⟩
               go_wp2_with fail
               refine (wakes_any w12 (Lib.hid (HT0.out.below bw))).mono ?_
               rintro e w13 ⟨rfl, bn⟩
               replace h_tl := h_tl.below bn
               replace h_rf := h_rf.below bn
               replace bw := below_two bw bn
               clear bn
               go_wp2
               go_ret
               exact ⟨by first | rfl | simp, bw⟩
            · have u1 := trivial
              by_cases g2 : bytesOf s_s = [115, 111, 117, 114, 99, 101]
              · as_aux_lemma =>
                 have bw := bel_refl w
                 have f1 : (s_s.toList == ([117, 110, 105, 116] : List UInt8)) = false := (own_eq s_s [117, 110, 105, 116] (by decide)).trans (decide_eq_false g1)
                 have f2 : (s_s.toList == ([115, 111, 117, 114, 99, 101] : List UInt8)) = true := (own_eq s_s [115, 111, 117, 114, 99, 101] (by decide)).trans (decide_eq_true g2)
                 have HN : Hid (isNam (bytesOf s_s) = false) := by show _ = _; rw [g2]; decide
                 clear g1 g2
                 go_wp2_with fail
                 refine (lkTokens_c s_s (by omega) w (HT0.out.below bw) [(1, bytesOf s_s, 0)] (0) (0) HV.out).mono ?_
                 rintro e w11 ⟨A_l, n_l, c_l, rfl, h_tl, bn⟩
                 replace bw := below_two bw bn
                 clear bn
                 obtain rfl : n_l = 1 := h_tl.1
                 have HU_f := Lib.hid (fitsF (0) (0))
                 have h_rf := rowA_new w11 26 (fltC (0) (0))
                 have bn := below_new w11 (.cells (fltC (0) (0)) 26)
                 replace h_tl := h_tl.below bn
                 replace bw := below_two bw bn
                 clear bn
                 have k0_f := h_rf.cell (k := 0) (v := .int .i64 (0)) rfl
                 obtain ⟨g_l, ea, hg_l, hc_l⟩ := h_tl.blk (by simp)
                 subst ea
                 have hn_l : 1 ≤ c_l := h_tl.2.1
                 have hI : InV (w11.alloc (.cells (fltC (0) (0)) 26)) g_l 0 (tkC 1 s_s 0) := by have h := h_tl.inv (i := 0) (t := (1, bytesOf s_s, 0)) rfl; unfold tkV at h; rw [strOf_bytesOf] at h; exact h
                 have HMt := Lib.hid (many3v 1 s_s 0)
                 have heq := fun W => equal_tk (k := 1) (k' := 1) (s := s_s) (s' := s_s) (a := 0) (a' := 0) (b := true) (by simp) W
                 have HI_tk := Lib.hid (hI)
                 go_wp2_with (first | (refine wpList_loadV (by rfl) _ _ (by rfl) _ _ (by rfl) _ (by assumption) (by assumption) ?_) | (refine wpList_storeNew (by rfl) _ _ _ (by rfl) _ _ _ (by rfl) (by rfl) (by assumption) ?_))
                 clear HI_tk k0_f heq
                 generalize w11.alloc (.cells (fltC (0) (0)) 26) = w12 at *
                 obtain ⟨q_f, eg⟩ : ∃ g, g = w11.heap.size := ⟨_, rfl⟩
                 rw [← eg] at h_rf ⊢
                 clear eg
                 have HTn : Hid (NTab w12) := (HT0.out.below bw).2
                 refine (lkIsName_c s_s (by omega) w12 HTn.out false HN.out).mono ?_
                 rintro e wx ⟨rfl, rfl⟩
                 go_wp2_with fail
                 refine (wakes_any w12 (Lib.hid (HT0.out.below bw))).mono ?_
                 rintro e w13 ⟨rfl, bn⟩
                 replace h_tl := h_tl.below bn
                 replace h_rf := h_rf.below bn
                 replace bw := below_two bw bn
                 clear bn
                 go_wp2
                 go_ret
                 exact ⟨by first | rfl | simp, bw⟩
              · have u2 := trivial
                by_cases g3 : bytesOf s_s = [99, 111, 118]
                · as_aux_lemma =>
                   have bw := bel_refl w
                   have f1 : (s_s.toList == ([117, 110, 105, 116] : List UInt8)) = false := (own_eq s_s [117, 110, 105, 116] (by decide)).trans (decide_eq_false g1)
                   have f2 : (s_s.toList == ([115, 111, 117, 114, 99, 101] : List UInt8)) = false := (own_eq s_s [115, 111, 117, 114, 99, 101] (by decide)).trans (decide_eq_false g2)
                   have f3 : (s_s.toList == ([99, 111, 118] : List UInt8)) = true := (own_eq s_s [99, 111, 118] (by decide)).trans (decide_eq_true g3)
                   have HN : Hid (isNam (bytesOf s_s) = false) := by show _ = _; rw [g3]; decide
                   clear g1 g2 g3
                   go_wp2_with fail
                   refine (lkTokens_c s_s (by omega) w (HT0.out.below bw) [(1, bytesOf s_s, 0)] (0) (0) HV.out).mono ?_
                   rintro e w11 ⟨A_l, n_l, c_l, rfl, h_tl, bn⟩
                   replace bw := below_two bw bn
                   clear bn
                   obtain rfl : n_l = 1 := h_tl.1
                   have HU_f := Lib.hid (fitsF (0) (0))
                   have h_rf := rowA_new w11 26 (fltC (0) (0))
                   have bn := below_new w11 (.cells (fltC (0) (0)) 26)
                   replace h_tl := h_tl.below bn
                   replace bw := below_two bw bn
                   clear bn
                   have k0_f := h_rf.cell (k := 0) (v := .int .i64 (0)) rfl
                   obtain ⟨g_l, ea, hg_l, hc_l⟩ := h_tl.blk (by simp)
                   subst ea
                   have hn_l : 1 ≤ c_l := h_tl.2.1
                   have hI : InV (w11.alloc (.cells (fltC (0) (0)) 26)) g_l 0 (tkC 1 s_s 0) := by have h := h_tl.inv (i := 0) (t := (1, bytesOf s_s, 0)) rfl; unfold tkV at h; rw [strOf_bytesOf] at h; exact h
                   have HMt := Lib.hid (many3v 1 s_s 0)
                   have heq := fun W => equal_tk (k := 1) (k' := 1) (s := s_s) (s' := s_s) (a := 0) (a' := 0) (b := true) (by simp) W
                   have HI_tk := Lib.hid (hI)
                   go_wp2_with (first | (refine wpList_loadV (by rfl) _ _ (by rfl) _ _ (by rfl) _ (by assumption) (by assumption) ?_) | (refine wpList_storeNew (by rfl) _ _ _ (by rfl) _ _ _ (by rfl) (by rfl) (by assumption) ?_))
                   clear HI_tk k0_f heq
                   generalize w11.alloc (.cells (fltC (0) (0)) 26) = w12 at *
                   obtain ⟨q_f, eg⟩ : ∃ g, g = w11.heap.size := ⟨_, rfl⟩
                   rw [← eg] at h_rf ⊢
                   clear eg
                   have HTn : Hid (NTab w12) := (HT0.out.below bw).2
                   refine (lkIsName_c s_s (by omega) w12 HTn.out false HN.out).mono ?_
                   rintro e wx ⟨rfl, rfl⟩
                   go_wp2_with fail
                   refine (wakes_any w12 (Lib.hid (HT0.out.below bw))).mono ?_
                   rintro e w13 ⟨rfl, bn⟩
                   replace h_tl := h_tl.below bn
                   replace h_rf := h_rf.below bn
                   replace bw := below_two bw bn
                   clear bn
                   go_wp2
                   go_ret
                   exact ⟨by first | rfl | simp, bw⟩
                · have u3 := trivial
                  by_cases g4 : bytesOf s_s = [108, 101, 116]
                  · as_aux_lemma =>
                     have bw := bel_refl w
                     have f1 : (s_s.toList == ([117, 110, 105, 116] : List UInt8)) = false := (own_eq s_s [117, 110, 105, 116] (by decide)).trans (decide_eq_false g1)
                     have f2 : (s_s.toList == ([115, 111, 117, 114, 99, 101] : List UInt8)) = false := (own_eq s_s [115, 111, 117, 114, 99, 101] (by decide)).trans (decide_eq_false g2)
                     have f3 : (s_s.toList == ([99, 111, 118] : List UInt8)) = false := (own_eq s_s [99, 111, 118] (by decide)).trans (decide_eq_false g3)
                     have f4 : (s_s.toList == ([108, 101, 116] : List UInt8)) = true := (own_eq s_s [108, 101, 116] (by decide)).trans (decide_eq_true g4)
                     have HN : Hid (isNam (bytesOf s_s) = false) := by show _ = _; rw [g4]; decide
                     clear g1 g2 g3 g4
                     go_wp2_with fail
                     refine (lkTokens_c s_s (by omega) w (HT0.out.below bw) [(1, bytesOf s_s, 0)] (0) (0) HV.out).mono ?_
                     rintro e w11 ⟨A_l, n_l, c_l, rfl, h_tl, bn⟩
                     replace bw := below_two bw bn
                     clear bn
                     obtain rfl : n_l = 1 := h_tl.1
                     have HU_f := Lib.hid (fitsF (0) (0))
                     have h_rf := rowA_new w11 26 (fltC (0) (0))
                     have bn := below_new w11 (.cells (fltC (0) (0)) 26)
                     replace h_tl := h_tl.below bn
                     replace bw := below_two bw bn
                     clear bn
                     have k0_f := h_rf.cell (k := 0) (v := .int .i64 (0)) rfl
                     obtain ⟨g_l, ea, hg_l, hc_l⟩ := h_tl.blk (by simp)
                     subst ea
                     have hn_l : 1 ≤ c_l := h_tl.2.1
                     have hI : InV (w11.alloc (.cells (fltC (0) (0)) 26)) g_l 0 (tkC 1 s_s 0) := by have h := h_tl.inv (i := 0) (t := (1, bytesOf s_s, 0)) rfl; unfold tkV at h; rw [strOf_bytesOf] at h; exact h
                     have HMt := Lib.hid (many3v 1 s_s 0)
                     have heq := fun W => equal_tk (k := 1) (k' := 1) (s := s_s) (s' := s_s) (a := 0) (a' := 0) (b := true) (by simp) W
                     have HI_tk := Lib.hid (hI)
                     go_wp2_with (first | (refine wpList_loadV (by rfl) _ _ (by rfl) _ _ (by rfl) _ (by assumption) (by assumption) ?_) | (refine wpList_storeNew (by rfl) _ _ _ (by rfl) _ _ _ (by rfl) (by rfl) (by assumption) ?_))
                     clear HI_tk k0_f heq
                     generalize w11.alloc (.cells (fltC (0) (0)) 26) = w12 at *
                     obtain ⟨q_f, eg⟩ : ∃ g, g = w11.heap.size := ⟨_, rfl⟩
                     rw [← eg] at h_rf ⊢
                     clear eg
                     have HTn : Hid (NTab w12) := (HT0.out.below bw).2
                     refine (lkIsName_c s_s (by omega) w12 HTn.out false HN.out).mono ?_
                     rintro e wx ⟨rfl, rfl⟩
                     go_wp2_with fail
                     refine (wakes_any w12 (Lib.hid (HT0.out.below bw))).mono ?_
                     rintro e w13 ⟨rfl, bn⟩
                     replace h_tl := h_tl.below bn
                     replace h_rf := h_rf.below bn
                     replace bw := below_two bw bn
                     clear bn
                     go_wp2
                     go_ret
                     exact ⟨by first | rfl | simp, bw⟩
                  · have u4 := trivial
                    by_cases g5 : bytesOf s_s = [111, 117, 116, 112, 117, 116]
                    · as_aux_lemma =>
                       have bw := bel_refl w
                       have f1 : (s_s.toList == ([117, 110, 105, 116] : List UInt8)) = false := (own_eq s_s [117, 110, 105, 116] (by decide)).trans (decide_eq_false g1)
                       have f2 : (s_s.toList == ([115, 111, 117, 114, 99, 101] : List UInt8)) = false := (own_eq s_s [115, 111, 117, 114, 99, 101] (by decide)).trans (decide_eq_false g2)
                       have f3 : (s_s.toList == ([99, 111, 118] : List UInt8)) = false := (own_eq s_s [99, 111, 118] (by decide)).trans (decide_eq_false g3)
                       have f4 : (s_s.toList == ([108, 101, 116] : List UInt8)) = false := (own_eq s_s [108, 101, 116] (by decide)).trans (decide_eq_false g4)
                       have f5 : (s_s.toList == ([111, 117, 116, 112, 117, 116] : List UInt8)) = true := (own_eq s_s [111, 117, 116, 112, 117, 116] (by decide)).trans (decide_eq_true g5)
                       have HN : Hid (isNam (bytesOf s_s) = false) := by show _ = _; rw [g5]; decide
                       clear g1 g2 g3 g4 g5
                       go_wp2_with fail
                       refine (lkTokens_c s_s (by omega) w (HT0.out.below bw) [(1, bytesOf s_s, 0)] (0) (0) HV.out).mono ?_
                       rintro e w11 ⟨A_l, n_l, c_l, rfl, h_tl, bn⟩
                       replace bw := below_two bw bn
                       clear bn
                       obtain rfl : n_l = 1 := h_tl.1
                       have HU_f := Lib.hid (fitsF (0) (0))
                       have h_rf := rowA_new w11 26 (fltC (0) (0))
                       have bn := below_new w11 (.cells (fltC (0) (0)) 26)
                       replace h_tl := h_tl.below bn
                       replace bw := below_two bw bn
                       clear bn
                       have k0_f := h_rf.cell (k := 0) (v := .int .i64 (0)) rfl
                       obtain ⟨g_l, ea, hg_l, hc_l⟩ := h_tl.blk (by simp)
                       subst ea
                       have hn_l : 1 ≤ c_l := h_tl.2.1
                       have hI : InV (w11.alloc (.cells (fltC (0) (0)) 26)) g_l 0 (tkC 1 s_s 0) := by have h := h_tl.inv (i := 0) (t := (1, bytesOf s_s, 0)) rfl; unfold tkV at h; rw [strOf_bytesOf] at h; exact h
                       have HMt := Lib.hid (many3v 1 s_s 0)
                       have heq := fun W => equal_tk (k := 1) (k' := 1) (s := s_s) (s' := s_s) (a := 0) (a' := 0) (b := true) (by simp) W
                       have HI_tk := Lib.hid (hI)
                       go_wp2_with (first | (refine wpList_loadV (by rfl) _ _ (by rfl) _ _ (by rfl) _ (by assumption) (by assumption) ?_) | (refine wpList_storeNew (by rfl) _ _ _ (by rfl) _ _ _ (by rfl) (by rfl) (by assumption) ?_))
                       clear HI_tk k0_f heq
                       generalize w11.alloc (.cells (fltC (0) (0)) 26) = w12 at *
                       obtain ⟨q_f, eg⟩ : ∃ g, g = w11.heap.size := ⟨_, rfl⟩
                       rw [← eg] at h_rf ⊢
                       clear eg
                       have HTn : Hid (NTab w12) := (HT0.out.below bw).2
                       refine (lkIsName_c s_s (by omega) w12 HTn.out false HN.out).mono ?_
                       rintro e wx ⟨rfl, rfl⟩
                       go_wp2_with fail
                       refine (wakes_any w12 (Lib.hid (HT0.out.below bw))).mono ?_
                       rintro e w13 ⟨rfl, bn⟩
                       replace h_tl := h_tl.below bn
                       replace h_rf := h_rf.below bn
                       replace bw := below_two bw bn
                       clear bn
                       go_wp2
                       go_ret
                       exact ⟨by first | rfl | simp, bw⟩
                    · have u5 := trivial
                      by_cases g6 : bytesOf s_s = [105, 110]
                      · as_aux_lemma =>
                         have bw := bel_refl w
                         have f1 : (s_s.toList == ([117, 110, 105, 116] : List UInt8)) = false := (own_eq s_s [117, 110, 105, 116] (by decide)).trans (decide_eq_false g1)
                         have f2 : (s_s.toList == ([115, 111, 117, 114, 99, 101] : List UInt8)) = false := (own_eq s_s [115, 111, 117, 114, 99, 101] (by decide)).trans (decide_eq_false g2)
                         have f3 : (s_s.toList == ([99, 111, 118] : List UInt8)) = false := (own_eq s_s [99, 111, 118] (by decide)).trans (decide_eq_false g3)
                         have f4 : (s_s.toList == ([108, 101, 116] : List UInt8)) = false := (own_eq s_s [108, 101, 116] (by decide)).trans (decide_eq_false g4)
                         have f5 : (s_s.toList == ([111, 117, 116, 112, 117, 116] : List UInt8)) = false := (own_eq s_s [111, 117, 116, 112, 117, 116] (by decide)).trans (decide_eq_false g5)
                         have f6 : (s_s.toList == ([105, 110] : List UInt8)) = true := (own_eq s_s [105, 110] (by decide)).trans (decide_eq_true g6)
                         have HN : Hid (isNam (bytesOf s_s) = false) := by show _ = _; rw [g6]; decide
                         clear g1 g2 g3 g4 g5 g6
                         go_wp2_with fail
                         refine (lkTokens_c s_s (by omega) w (HT0.out.below bw) [(1, bytesOf s_s, 0)] (0) (0) HV.out).mono ?_
                         rintro e w11 ⟨A_l, n_l, c_l, rfl, h_tl, bn⟩
                         replace bw := below_two bw bn
                         clear bn
                         obtain rfl : n_l = 1 := h_tl.1
                         have HU_f := Lib.hid (fitsF (0) (0))
                         have h_rf := rowA_new w11 26 (fltC (0) (0))
                         have bn := below_new w11 (.cells (fltC (0) (0)) 26)
                         replace h_tl := h_tl.below bn
                         replace bw := below_two bw bn
                         clear bn
                         have k0_f := h_rf.cell (k := 0) (v := .int .i64 (0)) rfl
                         obtain ⟨g_l, ea, hg_l, hc_l⟩ := h_tl.blk (by simp)
                         subst ea
                         have hn_l : 1 ≤ c_l := h_tl.2.1
                         have hI : InV (w11.alloc (.cells (fltC (0) (0)) 26)) g_l 0 (tkC 1 s_s 0) := by have h := h_tl.inv (i := 0) (t := (1, bytesOf s_s, 0)) rfl; unfold tkV at h; rw [strOf_bytesOf] at h; exact h
                         have HMt := Lib.hid (many3v 1 s_s 0)
                         have heq := fun W => equal_tk (k := 1) (k' := 1) (s := s_s) (s' := s_s) (a := 0) (a' := 0) (b := true) (by simp) W
                         have HI_tk := Lib.hid (hI)
                         go_wp2_with (first | (refine wpList_loadV (by rfl) _ _ (by rfl) _ _ (by rfl) _ (by assumption) (by assumption) ?_) | (refine wpList_storeNew (by rfl) _ _ _ (by rfl) _ _ _ (by rfl) (by rfl) (by assumption) ?_))
                         clear HI_tk k0_f heq
                         generalize w11.alloc (.cells (fltC (0) (0)) 26) = w12 at *
                         obtain ⟨q_f, eg⟩ : ∃ g, g = w11.heap.size := ⟨_, rfl⟩
                         rw [← eg] at h_rf ⊢
                         clear eg
                         have HTn : Hid (NTab w12) := (HT0.out.below bw).2
                         refine (lkIsName_c s_s (by omega) w12 HTn.out false HN.out).mono ?_
                         rintro e wx ⟨rfl, rfl⟩
                         go_wp2_with fail
                         refine (wakes_any w12 (Lib.hid (HT0.out.below bw))).mono ?_
                         rintro e w13 ⟨rfl, bn⟩
                         replace h_tl := h_tl.below bn
                         replace h_rf := h_rf.below bn
                         replace bw := below_two bw bn
                         clear bn
                         go_wp2
                         go_ret
                         exact ⟨by first | rfl | simp, bw⟩
                      · have u6 := trivial
                        have HO : Hid (ownW (bytesOf s_s) = false) := by show _ = _; unfold ownW; simp only [List.contains_cons, List.contains_nil, Bool.or_false, Bool.or_eq_false_iff, beq_eq_false_iff_ne]; exact ⟨g1, g2, g3, g4, g5, g6⟩
                        as_aux_lemma =>
                         have bw := bel_refl w
                         have f1 : (s_s.toList == ([117, 110, 105, 116] : List UInt8)) = false := (own_eq s_s [117, 110, 105, 116] (by decide)).trans (decide_eq_false g1)
                         have f2 : (s_s.toList == ([115, 111, 117, 114, 99, 101] : List UInt8)) = false := (own_eq s_s [115, 111, 117, 114, 99, 101] (by decide)).trans (decide_eq_false g2)
                         have f3 : (s_s.toList == ([99, 111, 118] : List UInt8)) = false := (own_eq s_s [99, 111, 118] (by decide)).trans (decide_eq_false g3)
                         have f4 : (s_s.toList == ([108, 101, 116] : List UInt8)) = false := (own_eq s_s [108, 101, 116] (by decide)).trans (decide_eq_false g4)
                         have f5 : (s_s.toList == ([111, 117, 116, 112, 117, 116] : List UInt8)) = false := (own_eq s_s [111, 117, 116, 112, 117, 116] (by decide)).trans (decide_eq_false g5)
                         have f6 : (s_s.toList == ([105, 110] : List UInt8)) = false := (own_eq s_s [105, 110] (by decide)).trans (decide_eq_false g6)
                         have HN : Hid (isNam (bytesOf s_s) = true) := by show _ = _; unfold isNam; rw [HWb.out, HO.out]; rfl
                         clear g1 g2 g3 g4 g5 g6
                         go_wp2_with fail
                         refine (lkTokens_c s_s (by omega) w (HT0.out.below bw) [(1, bytesOf s_s, 0)] (0) (0) HV.out).mono ?_
                         rintro e w11 ⟨A_l, n_l, c_l, rfl, h_tl, bn⟩
                         replace bw := below_two bw bn
                         clear bn
                         obtain rfl : n_l = 1 := h_tl.1
                         have HU_f := Lib.hid (fitsF (0) (0))
                         have h_rf := rowA_new w11 26 (fltC (0) (0))
                         have bn := below_new w11 (.cells (fltC (0) (0)) 26)
                         replace h_tl := h_tl.below bn
                         replace bw := below_two bw bn
                         clear bn
                         have k0_f := h_rf.cell (k := 0) (v := .int .i64 (0)) rfl
                         obtain ⟨g_l, ea, hg_l, hc_l⟩ := h_tl.blk (by simp)
                         subst ea
                         have hn_l : 1 ≤ c_l := h_tl.2.1
                         have hI : InV (w11.alloc (.cells (fltC (0) (0)) 26)) g_l 0 (tkC 1 s_s 0) := by have h := h_tl.inv (i := 0) (t := (1, bytesOf s_s, 0)) rfl; unfold tkV at h; rw [strOf_bytesOf] at h; exact h
                         have HMt := Lib.hid (many3v 1 s_s 0)
                         have heq := fun W => equal_tk (k := 1) (k' := 1) (s := s_s) (s' := s_s) (a := 0) (a' := 0) (b := true) (by simp) W
                         have HI_tk := Lib.hid (hI)
                         go_wp2_with (first | (refine wpList_loadV (by rfl) _ _ (by rfl) _ _ (by rfl) _ (by assumption) (by assumption) ?_) | (refine wpList_storeNew (by rfl) _ _ _ (by rfl) _ _ _ (by rfl) (by rfl) (by assumption) ?_))
                         clear HI_tk k0_f heq
                         generalize w11.alloc (.cells (fltC (0) (0)) 26) = w12 at *
                         obtain ⟨q_f, eg⟩ : ∃ g, g = w11.heap.size := ⟨_, rfl⟩
                         rw [← eg] at h_rf ⊢
                         clear eg
                         have HTn : Hid (NTab w12) := (HT0.out.below bw).2
                         refine (lkIsName_c s_s (by omega) w12 HTn.out true HN.out).mono ?_
                         rintro e wx ⟨rfl, rfl⟩
                         go_wp2_with fail
                         refine (wakes_any w12 (Lib.hid (HT0.out.below bw))).mono ?_
                         rintro e w13 ⟨rfl, bn⟩
                         replace h_tl := h_tl.below bn
                         replace h_rf := h_rf.below bn
                         replace bw := below_two bw bn
                         clear bn
                         go_wp2
                         go_ret
                         exact ⟨by first | rfl | simp, bw⟩
          · have hw2 : isWdB (bytesOf s_s) = false := by simpa using hw
            have HWb := Lib.hid hw2
            obtain rfl : b = false := HW.out.trans hw2
            have HO := Lib.hid (own_wd hw2)
            obtain ⟨g1, g2, g3, g4, g5, g6⟩ := no_own HO.out
            clear hw HW hw2
            cases hV : lexT (bytesOf s_s) with
            | bad p =>
             have HV := Lib.hid (lexV_bad (by rw [HL.out]; omega) hV)
             clear hV
             as_aux_lemma =>
              have bw := bel_refl w
              have f1 : (s_s.toList == ([117, 110, 105, 116] : List UInt8)) = false := (own_eq s_s [117, 110, 105, 116] (by decide)).trans (decide_eq_false g1)
              have f2 : (s_s.toList == ([115, 111, 117, 114, 99, 101] : List UInt8)) = false := (own_eq s_s [115, 111, 117, 114, 99, 101] (by decide)).trans (decide_eq_false g2)
              have f3 : (s_s.toList == ([99, 111, 118] : List UInt8)) = false := (own_eq s_s [99, 111, 118] (by decide)).trans (decide_eq_false g3)
              have f4 : (s_s.toList == ([108, 101, 116] : List UInt8)) = false := (own_eq s_s [108, 101, 116] (by decide)).trans (decide_eq_false g4)
              have f5 : (s_s.toList == ([111, 117, 116, 112, 117, 116] : List UInt8)) = false := (own_eq s_s [111, 117, 116, 112, 117, 116] (by decide)).trans (decide_eq_false g5)
              have f6 : (s_s.toList == ([105, 110] : List UInt8)) = false := (own_eq s_s [105, 110] (by decide)).trans (decide_eq_false g6)
              have HN : Hid (isNam (bytesOf s_s) = false) := by show _ = _; unfold isNam; rw [HWb.out]; rfl
              clear g1 g2 g3 g4 g5 g6
              go_wp2_with fail
              refine (lkTokens_c s_s (by omega) w (HT0.out.below bw) [] (11) ((p : Int)) HV.out).mono ?_
              rintro e w11 ⟨A_l, n_l, c_l, rfl, h_tl, bn⟩
              replace bw := below_two bw bn
              clear bn
              obtain rfl : n_l = 0 := h_tl.1
              have HU_f := Lib.hid (fitsF (11) ((p : Int)))
              have h_rf := rowA_new w11 26 (fltC (11) ((p : Int)))
              have bn := below_new w11 (.cells (fltC (11) ((p : Int))) 26)
              replace h_tl := h_tl.below bn
              replace bw := below_two bw bn
              clear bn
              have k0_f := h_rf.cell (k := 0) (v := .int .i64 (11)) rfl
              go_wp2_with (refine wpList_storeNew (by rfl) _ _ _ (by rfl) _ _ _ (by rfl) (by rfl) (by assumption) ?_)
              clear k0_f
              generalize w11.alloc (.cells (fltC (11) ((p : Int))) 26) = w12 at *
              obtain ⟨q_f, eg⟩ : ∃ g, g = w11.heap.size := ⟨_, rfl⟩
              rw [← eg] at h_rf ⊢
              clear eg
              have HTn : Hid (NTab w12) := (HT0.out.below bw).2
              refine (lkIsName_c s_s (by omega) w12 HTn.out false HN.out).mono ?_
              rintro e wx ⟨rfl, rfl⟩
              go_wp2_with fail
              refine (wakes_any w12 (Lib.hid (HT0.out.below bw))).mono ?_
              rintro e w13 ⟨rfl, bn⟩
              replace h_tl := h_tl.below bn
              replace h_rf := h_rf.below bn
              replace bw := below_two bw bn
              clear bn
              go_wp2
              go_ret
              exact ⟨by first | rfl | simp, bw⟩
            | ok ts =>
             have HV := Lib.hid (lexV_ok (by rw [HL.out]; omega) hV)
             by_cases ht : ts.length = 1
             · obtain ⟨t, rfl⟩ : ∃ t, ts = [t] := List.length_eq_one_iff.1 ht
               have HNe := Lib.hid (one_not HWb.out hV s_s rfl)
               clear hV ht
               as_aux_lemma =>
                have bw := bel_refl w
                have f1 : (s_s.toList == ([117, 110, 105, 116] : List UInt8)) = false := (own_eq s_s [117, 110, 105, 116] (by decide)).trans (decide_eq_false g1)
                have f2 : (s_s.toList == ([115, 111, 117, 114, 99, 101] : List UInt8)) = false := (own_eq s_s [115, 111, 117, 114, 99, 101] (by decide)).trans (decide_eq_false g2)
                have f3 : (s_s.toList == ([99, 111, 118] : List UInt8)) = false := (own_eq s_s [99, 111, 118] (by decide)).trans (decide_eq_false g3)
                have f4 : (s_s.toList == ([108, 101, 116] : List UInt8)) = false := (own_eq s_s [108, 101, 116] (by decide)).trans (decide_eq_false g4)
                have f5 : (s_s.toList == ([111, 117, 116, 112, 117, 116] : List UInt8)) = false := (own_eq s_s [111, 117, 116, 112, 117, 116] (by decide)).trans (decide_eq_false g5)
                have f6 : (s_s.toList == ([105, 110] : List UInt8)) = false := (own_eq s_s [105, 110] (by decide)).trans (decide_eq_false g6)
                have HN : Hid (isNam (bytesOf s_s) = false) := by show _ = _; unfold isNam; rw [HWb.out]; rfl
                clear g1 g2 g3 g4 g5 g6
                go_wp2_with fail
                refine (lkTokens_c s_s (by omega) w (HT0.out.below bw) [t] (0) (0) HV.out).mono ?_
                rintro e w11 ⟨A_l, n_l, c_l, rfl, h_tl, bn⟩
                replace bw := below_two bw bn
                clear bn
                obtain rfl : n_l = 1 := h_tl.1
                have HU_f := Lib.hid (fitsF (0) (0))
                have h_rf := rowA_new w11 26 (fltC (0) (0))
                have bn := below_new w11 (.cells (fltC (0) (0)) 26)
                replace h_tl := h_tl.below bn
                replace bw := below_two bw bn
                clear bn
                have k0_f := h_rf.cell (k := 0) (v := .int .i64 (0)) rfl
                obtain ⟨g_l, ea, hg_l, hc_l⟩ := h_tl.blk (by simp)
                subst ea
                have hn_l : 1 ≤ c_l := h_tl.2.1
                have hI : InV (w11.alloc (.cells (fltC (0) (0)) 26)) g_l 0 (tkC (t.1 : Int) (strOf t.2.1) (t.2.2 : Int)) := h_tl.inv (i := 0) (t := t) rfl
                have HMt := Lib.hid (many3v (t.1 : Int) (strOf t.2.1) (t.2.2 : Int))
                have heq := fun W => equal_tk (k := (t.1 : Int)) (k' := 1) (s := strOf t.2.1) (s' := s_s) (a := (t.2.2 : Int)) (a' := 0) (b := false) HNe.out W
                have HI_tk := Lib.hid (hI)
                go_wp2_with (first | (refine wpList_loadV (by rfl) _ _ (by rfl) _ _ (by rfl) _ (by assumption) (by assumption) ?_) | (refine wpList_storeNew (by rfl) _ _ _ (by rfl) _ _ _ (by rfl) (by rfl) (by assumption) ?_))
                clear HI_tk k0_f heq
                generalize w11.alloc (.cells (fltC (0) (0)) 26) = w12 at *
                obtain ⟨q_f, eg⟩ : ∃ g, g = w11.heap.size := ⟨_, rfl⟩
                rw [← eg] at h_rf ⊢
                clear eg
                have HTn : Hid (NTab w12) := (HT0.out.below bw).2
                refine (lkIsName_c s_s (by omega) w12 HTn.out false HN.out).mono ?_
                rintro e wx ⟨rfl, rfl⟩
                go_wp2_with fail
                refine (wakes_any w12 (Lib.hid (HT0.out.below bw))).mono ?_
                rintro e w13 ⟨rfl, bn⟩
                replace h_tl := h_tl.below bn
                replace h_rf := h_rf.below bn
                replace bw := below_two bw bn
                clear bn
                go_wp2
                go_ret
                exact ⟨by first | rfl | simp, bw⟩
             · have hts := Lib.hid ht
               clear hV ht
               as_aux_lemma =>
                have bw := bel_refl w
                have f1 : (s_s.toList == ([117, 110, 105, 116] : List UInt8)) = false := (own_eq s_s [117, 110, 105, 116] (by decide)).trans (decide_eq_false g1)
                have f2 : (s_s.toList == ([115, 111, 117, 114, 99, 101] : List UInt8)) = false := (own_eq s_s [115, 111, 117, 114, 99, 101] (by decide)).trans (decide_eq_false g2)
                have f3 : (s_s.toList == ([99, 111, 118] : List UInt8)) = false := (own_eq s_s [99, 111, 118] (by decide)).trans (decide_eq_false g3)
                have f4 : (s_s.toList == ([108, 101, 116] : List UInt8)) = false := (own_eq s_s [108, 101, 116] (by decide)).trans (decide_eq_false g4)
                have f5 : (s_s.toList == ([111, 117, 116, 112, 117, 116] : List UInt8)) = false := (own_eq s_s [111, 117, 116, 112, 117, 116] (by decide)).trans (decide_eq_false g5)
                have f6 : (s_s.toList == ([105, 110] : List UInt8)) = false := (own_eq s_s [105, 110] (by decide)).trans (decide_eq_false g6)
                have HN : Hid (isNam (bytesOf s_s) = false) := by show _ = _; unfold isNam; rw [HWb.out]; rfl
                clear g1 g2 g3 g4 g5 g6
                go_wp2_with fail
                refine (lkTokens_c s_s (by omega) w (HT0.out.below bw) ts (0) (0) HV.out).mono ?_
                rintro e w11 ⟨A_l, n_l, c_l, rfl, h_tl, bn⟩
                replace bw := below_two bw bn
                clear bn
                have HU_f := Lib.hid (fitsF (0) (0))
                have h_rf := rowA_new w11 26 (fltC (0) (0))
                have bn := below_new w11 (.cells (fltC (0) (0)) 26)
                replace h_tl := h_tl.below bn
                replace bw := below_two bw bn
                clear bn
                have k0_f := h_rf.cell (k := 0) (v := .int .i64 (0)) rfl
                have en : ((n_l : Int) == 1) = false := by have h1 := h_tl.1; have h2 := hts.out; rw [beq_eq_false_iff_ne]; omega
                go_wp2_with (refine wpList_storeNew (by rfl) _ _ _ (by rfl) _ _ _ (by rfl) (by rfl) (by assumption) ?_)
                clear k0_f en
                generalize w11.alloc (.cells (fltC (0) (0)) 26) = w12 at *
                obtain ⟨q_f, eg⟩ : ∃ g, g = w11.heap.size := ⟨_, rfl⟩
                rw [← eg] at h_rf ⊢
                clear eg
                have HTn : Hid (NTab w12) := (HT0.out.below bw).2
                refine (lkIsName_c s_s (by omega) w12 HTn.out false HN.out).mono ?_
                rintro e wx ⟨rfl, rfl⟩
                go_wp2_with fail
                refine (wakes_any w12 (Lib.hid (HT0.out.below bw))).mono ?_
                rintro e w13 ⟨rfl, bn⟩
                replace h_tl := h_tl.below bn
                replace h_rf := h_rf.below bn
                replace bw := below_two bw bn
                clear bn
                go_wp2
                go_ret
                exact ⟨by first | rfl | simp, bw⟩
   · obtain rfl : B0 = false := by rw [← hB0, decide_eq_false h1, Bool.false_and]
     have h1i : ¬ ((1 : Int) ≤ (s_s.size : Int)) := by omega
     clear hB0
     go_wp2
     go_loopw [3, 4] (fun bv iv wr => ∃ (k : Nat) (b : Bool), k ≤ s_s.size ∧ bv = .bool b ∧ iv = .int .i64 (k : Int) ∧ Hid (b = okB (bytesOf s_s) k) ∧ w = wr) (fun _ iv _ => s_s.size - (intOf iv).toNat)
     case atStart => exact ⟨0, _, Nat.zero_le _, rfl, rfl, HB0, rfl⟩
     case round =>
      obtain ⟨k, b, hk, rfl, rfl, HK, rfl⟩ := hrel
      by_cases hlt : k < s_s.size
      · obtain ⟨d, hd⟩ : ∃ d, (s_s[k]'hlt).toNat = d := ⟨_, rfl⟩
        have HS : Hid (okB (bytesOf s_s) (k + 1) = (b && wdAt k d)) := by show _ = _; rw [HK.out]; exact okB_step (by rw [HL.out]; exact hlt) (by rw [← Limb.byte_at s_s k hlt, hd])
        clear HK
        cases b with
        | false =>
         as_aux_lemma =>
          go_wp2
          exact ⟨⟨k + 1, false, by omega, rfl, by go_num, by show _ = _; rw [HS.out]; rfl, by first | rfl | trivial⟩, by simp [intOf]; omega⟩
        | true =>
         as_aux_lemma =>
          have e95 : ((d : Int) == 95) = decide (d = 95) := by rw [Bool.eq_iff_iff]; simp; omega
          go_wp2
          all_goals refine ⟨⟨k + 1, _, by omega, rfl, by go_num, ?_, by first | rfl | trivial⟩, by simp [intOf]; omega⟩
          all_goals (show _ = _; rw [HS.out, Bool.true_and]; unfold wdAt isLt isDig; grind)
      · obtain rfl : k = s_s.size := by omega
        clear hlt hk
        have HW : Hid (b = isWdB (bytesOf s_s)) := by show _ = _; rw [HK.out, ← okB_all, HL.out]
        clear HK
        by_cases hw : isWdB (bytesOf s_s) = true
        · have HWb := Lib.hid hw
          obtain rfl : b = true := HW.out.trans hw
          have HV : Hid (lexV (bytesOf s_s) = ([(1, bytesOf s_s, 0)], 0, 0)) := lexV_ok (by rw [HL.out]; omega) (word_one hw)
          clear hw HW
          by_cases g1 : bytesOf s_s = [117, 110, 105, 116]
          · as_aux_lemma =>
             have bw := bel_refl w
             have f1 : (s_s.toList == ([117, 110, 105, 116] : List UInt8)) = true := (own_eq s_s [117, 110, 105, 116] (by decide)).trans (decide_eq_true g1)
             have HN : Hid (isNam (bytesOf s_s) = false) := by show _ = _; rw [g1]; decide
             clear g1
             go_wp2_with fail
             refine (lkTokens_c s_s (by omega) w (HT0.out.below bw) [(1, bytesOf s_s, 0)] (0) (0) HV.out).mono ?_
             rintro e w11 ⟨A_l, n_l, c_l, rfl, h_tl, bn⟩
             replace bw := below_two bw bn
             clear bn
             obtain rfl : n_l = 1 := h_tl.1
             have HU_f := Lib.hid (fitsF (0) (0))
             have h_rf := rowA_new w11 26 (fltC (0) (0))
             have bn := below_new w11 (.cells (fltC (0) (0)) 26)
             replace h_tl := h_tl.below bn
             replace bw := below_two bw bn
             clear bn
             have k0_f := h_rf.cell (k := 0) (v := .int .i64 (0)) rfl
             obtain ⟨g_l, ea, hg_l, hc_l⟩ := h_tl.blk (by simp)
             subst ea
             have hn_l : 1 ≤ c_l := h_tl.2.1
             have hI : InV (w11.alloc (.cells (fltC (0) (0)) 26)) g_l 0 (tkC 1 s_s 0) := by have h := h_tl.inv (i := 0) (t := (1, bytesOf s_s, 0)) rfl; unfold tkV at h; rw [strOf_bytesOf] at h; exact h
             have HMt := Lib.hid (many3v 1 s_s 0)
             have heq := fun W => equal_tk (k := 1) (k' := 1) (s := s_s) (s' := s_s) (a := 0) (a' := 0) (b := true) (by simp) W
             have HI_tk := Lib.hid (hI)
             go_wp2_with (first | (refine wpList_loadV (by rfl) _ _ (by rfl) _ _ (by rfl) _ (by assumption) (by assumption) ?_) | (refine wpList_storeNew (by rfl) _ _ _ (by rfl) _ _ _ (by rfl) (by rfl) (by assumption) ?_))
             clear HI_tk k0_f heq
             generalize w11.alloc (.cells (fltC (0) (0)) 26) = w12 at *
             obtain ⟨q_f, eg⟩ : ∃ g, g = w11.heap.size := ⟨_, rfl⟩
             rw [← eg] at h_rf ⊢
             clear eg
             have HTn : Hid (NTab w12) := (HT0.out.below bw).2
             refine (lkIsName_c s_s (by omega) w12 HTn.out false HN.out).mono ?_
             rintro e wx ⟨rfl, rfl⟩
             go_wp2_with fail
             refine (wakes_any w12 (Lib.hid (HT0.out.below bw))).mono ?_
             rintro e w13 ⟨rfl, bn⟩
             replace h_tl := h_tl.below bn
             replace h_rf := h_rf.below bn
             replace bw := below_two bw bn
             clear bn
             go_wp2
             go_ret
             exact ⟨by first | rfl | simp, bw⟩
          · have u1 := trivial
            by_cases g2 : bytesOf s_s = [115, 111, 117, 114, 99, 101]
            · as_aux_lemma =>
               have bw := bel_refl w
               have f1 : (s_s.toList == ([117, 110, 105, 116] : List UInt8)) = false := (own_eq s_s [117, 110, 105, 116] (by decide)).trans (decide_eq_false g1)
               have f2 : (s_s.toList == ([115, 111, 117, 114, 99, 101] : List UInt8)) = true := (own_eq s_s [115, 111, 117, 114, 99, 101] (by decide)).trans (decide_eq_true g2)
               have HN : Hid (isNam (bytesOf s_s) = false) := by show _ = _; rw [g2]; decide
               clear g1 g2
               go_wp2_with fail
               refine (lkTokens_c s_s (by omega) w (HT0.out.below bw) [(1, bytesOf s_s, 0)] (0) (0) HV.out).mono ?_
               rintro e w11 ⟨A_l, n_l, c_l, rfl, h_tl, bn⟩
               replace bw := below_two bw bn
               clear bn
               obtain rfl : n_l = 1 := h_tl.1
               have HU_f := Lib.hid (fitsF (0) (0))
               have h_rf := rowA_new w11 26 (fltC (0) (0))
               have bn := below_new w11 (.cells (fltC (0) (0)) 26)
               replace h_tl := h_tl.below bn
               replace bw := below_two bw bn
               clear bn
               have k0_f := h_rf.cell (k := 0) (v := .int .i64 (0)) rfl
               obtain ⟨g_l, ea, hg_l, hc_l⟩ := h_tl.blk (by simp)
               subst ea
               have hn_l : 1 ≤ c_l := h_tl.2.1
               have hI : InV (w11.alloc (.cells (fltC (0) (0)) 26)) g_l 0 (tkC 1 s_s 0) := by have h := h_tl.inv (i := 0) (t := (1, bytesOf s_s, 0)) rfl; unfold tkV at h; rw [strOf_bytesOf] at h; exact h
               have HMt := Lib.hid (many3v 1 s_s 0)
               have heq := fun W => equal_tk (k := 1) (k' := 1) (s := s_s) (s' := s_s) (a := 0) (a' := 0) (b := true) (by simp) W
               have HI_tk := Lib.hid (hI)
               go_wp2_with (first | (refine wpList_loadV (by rfl) _ _ (by rfl) _ _ (by rfl) _ (by assumption) (by assumption) ?_) | (refine wpList_storeNew (by rfl) _ _ _ (by rfl) _ _ _ (by rfl) (by rfl) (by assumption) ?_))
               clear HI_tk k0_f heq
               generalize w11.alloc (.cells (fltC (0) (0)) 26) = w12 at *
               obtain ⟨q_f, eg⟩ : ∃ g, g = w11.heap.size := ⟨_, rfl⟩
               rw [← eg] at h_rf ⊢
               clear eg
               have HTn : Hid (NTab w12) := (HT0.out.below bw).2
               refine (lkIsName_c s_s (by omega) w12 HTn.out false HN.out).mono ?_
               rintro e wx ⟨rfl, rfl⟩
               go_wp2_with fail
               refine (wakes_any w12 (Lib.hid (HT0.out.below bw))).mono ?_
               rintro e w13 ⟨rfl, bn⟩
               replace h_tl := h_tl.below bn
               replace h_rf := h_rf.below bn
               replace bw := below_two bw bn
               clear bn
               go_wp2
               go_ret
               exact ⟨by first | rfl | simp, bw⟩
            · have u2 := trivial
              by_cases g3 : bytesOf s_s = [99, 111, 118]
              · as_aux_lemma =>
                 have bw := bel_refl w
                 have f1 : (s_s.toList == ([117, 110, 105, 116] : List UInt8)) = false := (own_eq s_s [117, 110, 105, 116] (by decide)).trans (decide_eq_false g1)
                 have f2 : (s_s.toList == ([115, 111, 117, 114, 99, 101] : List UInt8)) = false := (own_eq s_s [115, 111, 117, 114, 99, 101] (by decide)).trans (decide_eq_false g2)
                 have f3 : (s_s.toList == ([99, 111, 118] : List UInt8)) = true := (own_eq s_s [99, 111, 118] (by decide)).trans (decide_eq_true g3)
                 have HN : Hid (isNam (bytesOf s_s) = false) := by show _ = _; rw [g3]; decide
                 clear g1 g2 g3
                 go_wp2_with fail
                 refine (lkTokens_c s_s (by omega) w (HT0.out.below bw) [(1, bytesOf s_s, 0)] (0) (0) HV.out).mono ?_
                 rintro e w11 ⟨A_l, n_l, c_l, rfl, h_tl, bn⟩
                 replace bw := below_two bw bn
                 clear bn
                 obtain rfl : n_l = 1 := h_tl.1
                 have HU_f := Lib.hid (fitsF (0) (0))
                 have h_rf := rowA_new w11 26 (fltC (0) (0))
                 have bn := below_new w11 (.cells (fltC (0) (0)) 26)
                 replace h_tl := h_tl.below bn
                 replace bw := below_two bw bn
                 clear bn
                 have k0_f := h_rf.cell (k := 0) (v := .int .i64 (0)) rfl
                 obtain ⟨g_l, ea, hg_l, hc_l⟩ := h_tl.blk (by simp)
                 subst ea
                 have hn_l : 1 ≤ c_l := h_tl.2.1
                 have hI : InV (w11.alloc (.cells (fltC (0) (0)) 26)) g_l 0 (tkC 1 s_s 0) := by have h := h_tl.inv (i := 0) (t := (1, bytesOf s_s, 0)) rfl; unfold tkV at h; rw [strOf_bytesOf] at h; exact h
                 have HMt := Lib.hid (many3v 1 s_s 0)
                 have heq := fun W => equal_tk (k := 1) (k' := 1) (s := s_s) (s' := s_s) (a := 0) (a' := 0) (b := true) (by simp) W
                 have HI_tk := Lib.hid (hI)
                 go_wp2_with (first | (refine wpList_loadV (by rfl) _ _ (by rfl) _ _ (by rfl) _ (by assumption) (by assumption) ?_) | (refine wpList_storeNew (by rfl) _ _ _ (by rfl) _ _ _ (by rfl) (by rfl) (by assumption) ?_))
                 clear HI_tk k0_f heq
                 generalize w11.alloc (.cells (fltC (0) (0)) 26) = w12 at *
                 obtain ⟨q_f, eg⟩ : ∃ g, g = w11.heap.size := ⟨_, rfl⟩
                 rw [← eg] at h_rf ⊢
                 clear eg
                 have HTn : Hid (NTab w12) := (HT0.out.below bw).2
                 refine (lkIsName_c s_s (by omega) w12 HTn.out false HN.out).mono ?_
                 rintro e wx ⟨rfl, rfl⟩
                 go_wp2_with fail
                 refine (wakes_any w12 (Lib.hid (HT0.out.below bw))).mono ?_
                 rintro e w13 ⟨rfl, bn⟩
                 replace h_tl := h_tl.below bn
                 replace h_rf := h_rf.below bn
                 replace bw := below_two bw bn
                 clear bn
                 go_wp2
                 go_ret
                 exact ⟨by first | rfl | simp, bw⟩
              · have u3 := trivial
                by_cases g4 : bytesOf s_s = [108, 101, 116]
                · as_aux_lemma =>
                   have bw := bel_refl w
                   have f1 : (s_s.toList == ([117, 110, 105, 116] : List UInt8)) = false := (own_eq s_s [117, 110, 105, 116] (by decide)).trans (decide_eq_false g1)
                   have f2 : (s_s.toList == ([115, 111, 117, 114, 99, 101] : List UInt8)) = false := (own_eq s_s [115, 111, 117, 114, 99, 101] (by decide)).trans (decide_eq_false g2)
                   have f3 : (s_s.toList == ([99, 111, 118] : List UInt8)) = false := (own_eq s_s [99, 111, 118] (by decide)).trans (decide_eq_false g3)
                   have f4 : (s_s.toList == ([108, 101, 116] : List UInt8)) = true := (own_eq s_s [108, 101, 116] (by decide)).trans (decide_eq_true g4)
                   have HN : Hid (isNam (bytesOf s_s) = false) := by show _ = _; rw [g4]; decide
                   clear g1 g2 g3 g4
                   go_wp2_with fail
                   refine (lkTokens_c s_s (by omega) w (HT0.out.below bw) [(1, bytesOf s_s, 0)] (0) (0) HV.out).mono ?_
                   rintro e w11 ⟨A_l, n_l, c_l, rfl, h_tl, bn⟩
                   replace bw := below_two bw bn
                   clear bn
                   obtain rfl : n_l = 1 := h_tl.1
                   have HU_f := Lib.hid (fitsF (0) (0))
                   have h_rf := rowA_new w11 26 (fltC (0) (0))
                   have bn := below_new w11 (.cells (fltC (0) (0)) 26)
                   replace h_tl := h_tl.below bn
                   replace bw := below_two bw bn
                   clear bn
                   have k0_f := h_rf.cell (k := 0) (v := .int .i64 (0)) rfl
                   obtain ⟨g_l, ea, hg_l, hc_l⟩ := h_tl.blk (by simp)
                   subst ea
                   have hn_l : 1 ≤ c_l := h_tl.2.1
                   have hI : InV (w11.alloc (.cells (fltC (0) (0)) 26)) g_l 0 (tkC 1 s_s 0) := by have h := h_tl.inv (i := 0) (t := (1, bytesOf s_s, 0)) rfl; unfold tkV at h; rw [strOf_bytesOf] at h; exact h
                   have HMt := Lib.hid (many3v 1 s_s 0)
                   have heq := fun W => equal_tk (k := 1) (k' := 1) (s := s_s) (s' := s_s) (a := 0) (a' := 0) (b := true) (by simp) W
                   have HI_tk := Lib.hid (hI)
                   go_wp2_with (first | (refine wpList_loadV (by rfl) _ _ (by rfl) _ _ (by rfl) _ (by assumption) (by assumption) ?_) | (refine wpList_storeNew (by rfl) _ _ _ (by rfl) _ _ _ (by rfl) (by rfl) (by assumption) ?_))
                   clear HI_tk k0_f heq
                   generalize w11.alloc (.cells (fltC (0) (0)) 26) = w12 at *
                   obtain ⟨q_f, eg⟩ : ∃ g, g = w11.heap.size := ⟨_, rfl⟩
                   rw [← eg] at h_rf ⊢
                   clear eg
                   have HTn : Hid (NTab w12) := (HT0.out.below bw).2
                   refine (lkIsName_c s_s (by omega) w12 HTn.out false HN.out).mono ?_
                   rintro e wx ⟨rfl, rfl⟩
                   go_wp2_with fail
                   refine (wakes_any w12 (Lib.hid (HT0.out.below bw))).mono ?_
                   rintro e w13 ⟨rfl, bn⟩
                   replace h_tl := h_tl.below bn
                   replace h_rf := h_rf.below bn
                   replace bw := below_two bw bn
                   clear bn
                   go_wp2
                   go_ret
                   exact ⟨by first | rfl | simp, bw⟩
                · have u4 := trivial
                  by_cases g5 : bytesOf s_s = [111, 117, 116, 112, 117, 116]
                  · as_aux_lemma =>
                     have bw := bel_refl w
                     have f1 : (s_s.toList == ([117, 110, 105, 116] : List UInt8)) = false := (own_eq s_s [117, 110, 105, 116] (by decide)).trans (decide_eq_false g1)
                     have f2 : (s_s.toList == ([115, 111, 117, 114, 99, 101] : List UInt8)) = false := (own_eq s_s [115, 111, 117, 114, 99, 101] (by decide)).trans (decide_eq_false g2)
                     have f3 : (s_s.toList == ([99, 111, 118] : List UInt8)) = false := (own_eq s_s [99, 111, 118] (by decide)).trans (decide_eq_false g3)
                     have f4 : (s_s.toList == ([108, 101, 116] : List UInt8)) = false := (own_eq s_s [108, 101, 116] (by decide)).trans (decide_eq_false g4)
                     have f5 : (s_s.toList == ([111, 117, 116, 112, 117, 116] : List UInt8)) = true := (own_eq s_s [111, 117, 116, 112, 117, 116] (by decide)).trans (decide_eq_true g5)
                     have HN : Hid (isNam (bytesOf s_s) = false) := by show _ = _; rw [g5]; decide
                     clear g1 g2 g3 g4 g5
                     go_wp2_with fail
                     refine (lkTokens_c s_s (by omega) w (HT0.out.below bw) [(1, bytesOf s_s, 0)] (0) (0) HV.out).mono ?_
                     rintro e w11 ⟨A_l, n_l, c_l, rfl, h_tl, bn⟩
                     replace bw := below_two bw bn
                     clear bn
                     obtain rfl : n_l = 1 := h_tl.1
                     have HU_f := Lib.hid (fitsF (0) (0))
                     have h_rf := rowA_new w11 26 (fltC (0) (0))
                     have bn := below_new w11 (.cells (fltC (0) (0)) 26)
                     replace h_tl := h_tl.below bn
                     replace bw := below_two bw bn
                     clear bn
                     have k0_f := h_rf.cell (k := 0) (v := .int .i64 (0)) rfl
                     obtain ⟨g_l, ea, hg_l, hc_l⟩ := h_tl.blk (by simp)
                     subst ea
                     have hn_l : 1 ≤ c_l := h_tl.2.1
                     have hI : InV (w11.alloc (.cells (fltC (0) (0)) 26)) g_l 0 (tkC 1 s_s 0) := by have h := h_tl.inv (i := 0) (t := (1, bytesOf s_s, 0)) rfl; unfold tkV at h; rw [strOf_bytesOf] at h; exact h
                     have HMt := Lib.hid (many3v 1 s_s 0)
                     have heq := fun W => equal_tk (k := 1) (k' := 1) (s := s_s) (s' := s_s) (a := 0) (a' := 0) (b := true) (by simp) W
                     have HI_tk := Lib.hid (hI)
                     go_wp2_with (first | (refine wpList_loadV (by rfl) _ _ (by rfl) _ _ (by rfl) _ (by assumption) (by assumption) ?_) | (refine wpList_storeNew (by rfl) _ _ _ (by rfl) _ _ _ (by rfl) (by rfl) (by assumption) ?_))
                     clear HI_tk k0_f heq
                     generalize w11.alloc (.cells (fltC (0) (0)) 26) = w12 at *
                     obtain ⟨q_f, eg⟩ : ∃ g, g = w11.heap.size := ⟨_, rfl⟩
                     rw [← eg] at h_rf ⊢
                     clear eg
                     have HTn : Hid (NTab w12) := (HT0.out.below bw).2
                     refine (lkIsName_c s_s (by omega) w12 HTn.out false HN.out).mono ?_
                     rintro e wx ⟨rfl, rfl⟩
                     go_wp2_with fail
                     refine (wakes_any w12 (Lib.hid (HT0.out.below bw))).mono ?_
                     rintro e w13 ⟨rfl, bn⟩
                     replace h_tl := h_tl.below bn
                     replace h_rf := h_rf.below bn
                     replace bw := below_two bw bn
                     clear bn
                     go_wp2
                     go_ret
                     exact ⟨by first | rfl | simp, bw⟩
                  · have u5 := trivial
                    by_cases g6 : bytesOf s_s = [105, 110]
                    · as_aux_lemma =>
                       have bw := bel_refl w
                       have f1 : (s_s.toList == ([117, 110, 105, 116] : List UInt8)) = false := (own_eq s_s [117, 110, 105, 116] (by decide)).trans (decide_eq_false g1)
                       have f2 : (s_s.toList == ([115, 111, 117, 114, 99, 101] : List UInt8)) = false := (own_eq s_s [115, 111, 117, 114, 99, 101] (by decide)).trans (decide_eq_false g2)
                       have f3 : (s_s.toList == ([99, 111, 118] : List UInt8)) = false := (own_eq s_s [99, 111, 118] (by decide)).trans (decide_eq_false g3)
                       have f4 : (s_s.toList == ([108, 101, 116] : List UInt8)) = false := (own_eq s_s [108, 101, 116] (by decide)).trans (decide_eq_false g4)
                       have f5 : (s_s.toList == ([111, 117, 116, 112, 117, 116] : List UInt8)) = false := (own_eq s_s [111, 117, 116, 112, 117, 116] (by decide)).trans (decide_eq_false g5)
                       have f6 : (s_s.toList == ([105, 110] : List UInt8)) = true := (own_eq s_s [105, 110] (by decide)).trans (decide_eq_true g6)
                       have HN : Hid (isNam (bytesOf s_s) = false) := by show _ = _; rw [g6]; decide
                       clear g1 g2 g3 g4 g5 g6
                       go_wp2_with fail
                       refine (lkTokens_c s_s (by omega) w (HT0.out.below bw) [(1, bytesOf s_s, 0)] (0) (0) HV.out).mono ?_
                       rintro e w11 ⟨A_l, n_l, c_l, rfl, h_tl, bn⟩
                       replace bw := below_two bw bn
                       clear bn
                       obtain rfl : n_l = 1 := h_tl.1
                       have HU_f := Lib.hid (fitsF (0) (0))
                       have h_rf := rowA_new w11 26 (fltC (0) (0))
                       have bn := below_new w11 (.cells (fltC (0) (0)) 26)
                       replace h_tl := h_tl.below bn
                       replace bw := below_two bw bn
                       clear bn
                       have k0_f := h_rf.cell (k := 0) (v := .int .i64 (0)) rfl
                       obtain ⟨g_l, ea, hg_l, hc_l⟩ := h_tl.blk (by simp)
                       subst ea
                       have hn_l : 1 ≤ c_l := h_tl.2.1
                       have hI : InV (w11.alloc (.cells (fltC (0) (0)) 26)) g_l 0 (tkC 1 s_s 0) := by have h := h_tl.inv (i := 0) (t := (1, bytesOf s_s, 0)) rfl; unfold tkV at h; rw [strOf_bytesOf] at h; exact h
                       have HMt := Lib.hid (many3v 1 s_s 0)
                       have heq := fun W => equal_tk (k := 1) (k' := 1) (s := s_s) (s' := s_s) (a := 0) (a' := 0) (b := true) (by simp) W
                       have HI_tk := Lib.hid (hI)
                       go_wp2_with (first | (refine wpList_loadV (by rfl) _ _ (by rfl) _ _ (by rfl) _ (by assumption) (by assumption) ?_) | (refine wpList_storeNew (by rfl) _ _ _ (by rfl) _ _ _ (by rfl) (by rfl) (by assumption) ?_))
                       clear HI_tk k0_f heq
                       generalize w11.alloc (.cells (fltC (0) (0)) 26) = w12 at *
                       obtain ⟨q_f, eg⟩ : ∃ g, g = w11.heap.size := ⟨_, rfl⟩
                       rw [← eg] at h_rf ⊢
                       clear eg
                       have HTn : Hid (NTab w12) := (HT0.out.below bw).2
                       refine (lkIsName_c s_s (by omega) w12 HTn.out false HN.out).mono ?_
                       rintro e wx ⟨rfl, rfl⟩
                       go_wp2_with fail
                       refine (wakes_any w12 (Lib.hid (HT0.out.below bw))).mono ?_
                       rintro e w13 ⟨rfl, bn⟩
                       replace h_tl := h_tl.below bn
                       replace h_rf := h_rf.below bn
                       replace bw := below_two bw bn
                       clear bn
                       go_wp2
                       go_ret
                       exact ⟨by first | rfl | simp, bw⟩
                    · have u6 := trivial
                      have HO : Hid (ownW (bytesOf s_s) = false) := by show _ = _; unfold ownW; simp only [List.contains_cons, List.contains_nil, Bool.or_false, Bool.or_eq_false_iff, beq_eq_false_iff_ne]; exact ⟨g1, g2, g3, g4, g5, g6⟩
                      as_aux_lemma =>
                       have bw := bel_refl w
                       have f1 : (s_s.toList == ([117, 110, 105, 116] : List UInt8)) = false := (own_eq s_s [117, 110, 105, 116] (by decide)).trans (decide_eq_false g1)
                       have f2 : (s_s.toList == ([115, 111, 117, 114, 99, 101] : List UInt8)) = false := (own_eq s_s [115, 111, 117, 114, 99, 101] (by decide)).trans (decide_eq_false g2)
                       have f3 : (s_s.toList == ([99, 111, 118] : List UInt8)) = false := (own_eq s_s [99, 111, 118] (by decide)).trans (decide_eq_false g3)
                       have f4 : (s_s.toList == ([108, 101, 116] : List UInt8)) = false := (own_eq s_s [108, 101, 116] (by decide)).trans (decide_eq_false g4)
                       have f5 : (s_s.toList == ([111, 117, 116, 112, 117, 116] : List UInt8)) = false := (own_eq s_s [111, 117, 116, 112, 117, 116] (by decide)).trans (decide_eq_false g5)
                       have f6 : (s_s.toList == ([105, 110] : List UInt8)) = false := (own_eq s_s [105, 110] (by decide)).trans (decide_eq_false g6)
                       have HN : Hid (isNam (bytesOf s_s) = true) := by show _ = _; unfold isNam; rw [HWb.out, HO.out]; rfl
                       clear g1 g2 g3 g4 g5 g6
                       go_wp2_with fail
                       refine (lkTokens_c s_s (by omega) w (HT0.out.below bw) [(1, bytesOf s_s, 0)] (0) (0) HV.out).mono ?_
                       rintro e w11 ⟨A_l, n_l, c_l, rfl, h_tl, bn⟩
                       replace bw := below_two bw bn
                       clear bn
                       obtain rfl : n_l = 1 := h_tl.1
                       have HU_f := Lib.hid (fitsF (0) (0))
                       have h_rf := rowA_new w11 26 (fltC (0) (0))
                       have bn := below_new w11 (.cells (fltC (0) (0)) 26)
                       replace h_tl := h_tl.below bn
                       replace bw := below_two bw bn
                       clear bn
                       have k0_f := h_rf.cell (k := 0) (v := .int .i64 (0)) rfl
                       obtain ⟨g_l, ea, hg_l, hc_l⟩ := h_tl.blk (by simp)
                       subst ea
                       have hn_l : 1 ≤ c_l := h_tl.2.1
                       have hI : InV (w11.alloc (.cells (fltC (0) (0)) 26)) g_l 0 (tkC 1 s_s 0) := by have h := h_tl.inv (i := 0) (t := (1, bytesOf s_s, 0)) rfl; unfold tkV at h; rw [strOf_bytesOf] at h; exact h
                       have HMt := Lib.hid (many3v 1 s_s 0)
                       have heq := fun W => equal_tk (k := 1) (k' := 1) (s := s_s) (s' := s_s) (a := 0) (a' := 0) (b := true) (by simp) W
                       have HI_tk := Lib.hid (hI)
                       go_wp2_with (first | (refine wpList_loadV (by rfl) _ _ (by rfl) _ _ (by rfl) _ (by assumption) (by assumption) ?_) | (refine wpList_storeNew (by rfl) _ _ _ (by rfl) _ _ _ (by rfl) (by rfl) (by assumption) ?_))
                       clear HI_tk k0_f heq
                       generalize w11.alloc (.cells (fltC (0) (0)) 26) = w12 at *
                       obtain ⟨q_f, eg⟩ : ∃ g, g = w11.heap.size := ⟨_, rfl⟩
                       rw [← eg] at h_rf ⊢
                       clear eg
                       have HTn : Hid (NTab w12) := (HT0.out.below bw).2
                       refine (lkIsName_c s_s (by omega) w12 HTn.out true HN.out).mono ?_
                       rintro e wx ⟨rfl, rfl⟩
                       go_wp2_with fail
                       refine (wakes_any w12 (Lib.hid (HT0.out.below bw))).mono ?_
                       rintro e w13 ⟨rfl, bn⟩
                       replace h_tl := h_tl.below bn
                       replace h_rf := h_rf.below bn
                       replace bw := below_two bw bn
                       clear bn
                       go_wp2
                       go_ret
                       exact ⟨by first | rfl | simp, bw⟩
        · have hw2 : isWdB (bytesOf s_s) = false := by simpa using hw
          have HWb := Lib.hid hw2
          obtain rfl : b = false := HW.out.trans hw2
          have HO := Lib.hid (own_wd hw2)
          obtain ⟨g1, g2, g3, g4, g5, g6⟩ := no_own HO.out
          clear hw HW hw2
          cases hV : lexT (bytesOf s_s) with
          | bad p =>
           have HV := Lib.hid (lexV_bad (by rw [HL.out]; omega) hV)
           clear hV
           as_aux_lemma =>
            have bw := bel_refl w
            have f1 : (s_s.toList == ([117, 110, 105, 116] : List UInt8)) = false := (own_eq s_s [117, 110, 105, 116] (by decide)).trans (decide_eq_false g1)
            have f2 : (s_s.toList == ([115, 111, 117, 114, 99, 101] : List UInt8)) = false := (own_eq s_s [115, 111, 117, 114, 99, 101] (by decide)).trans (decide_eq_false g2)
            have f3 : (s_s.toList == ([99, 111, 118] : List UInt8)) = false := (own_eq s_s [99, 111, 118] (by decide)).trans (decide_eq_false g3)
            have f4 : (s_s.toList == ([108, 101, 116] : List UInt8)) = false := (own_eq s_s [108, 101, 116] (by decide)).trans (decide_eq_false g4)
            have f5 : (s_s.toList == ([111, 117, 116, 112, 117, 116] : List UInt8)) = false := (own_eq s_s [111, 117, 116, 112, 117, 116] (by decide)).trans (decide_eq_false g5)
            have f6 : (s_s.toList == ([105, 110] : List UInt8)) = false := (own_eq s_s [105, 110] (by decide)).trans (decide_eq_false g6)
            have HN : Hid (isNam (bytesOf s_s) = false) := by show _ = _; unfold isNam; rw [HWb.out]; rfl
            clear g1 g2 g3 g4 g5 g6
            go_wp2_with fail
            refine (lkTokens_c s_s (by omega) w (HT0.out.below bw) [] (11) ((p : Int)) HV.out).mono ?_
            rintro e w11 ⟨A_l, n_l, c_l, rfl, h_tl, bn⟩
            replace bw := below_two bw bn
            clear bn
            obtain rfl : n_l = 0 := h_tl.1
            have HU_f := Lib.hid (fitsF (11) ((p : Int)))
            have h_rf := rowA_new w11 26 (fltC (11) ((p : Int)))
            have bn := below_new w11 (.cells (fltC (11) ((p : Int))) 26)
            replace h_tl := h_tl.below bn
            replace bw := below_two bw bn
            clear bn
            have k0_f := h_rf.cell (k := 0) (v := .int .i64 (11)) rfl
            go_wp2_with (refine wpList_storeNew (by rfl) _ _ _ (by rfl) _ _ _ (by rfl) (by rfl) (by assumption) ?_)
            clear k0_f
            generalize w11.alloc (.cells (fltC (11) ((p : Int))) 26) = w12 at *
            obtain ⟨q_f, eg⟩ : ∃ g, g = w11.heap.size := ⟨_, rfl⟩
            rw [← eg] at h_rf ⊢
            clear eg
            have HTn : Hid (NTab w12) := (HT0.out.below bw).2
            refine (lkIsName_c s_s (by omega) w12 HTn.out false HN.out).mono ?_
            rintro e wx ⟨rfl, rfl⟩
            go_wp2_with fail
            refine (wakes_any w12 (Lib.hid (HT0.out.below bw))).mono ?_
            rintro e w13 ⟨rfl, bn⟩
            replace h_tl := h_tl.below bn
            replace h_rf := h_rf.below bn
            replace bw := below_two bw bn
            clear bn
            go_wp2
            go_ret
            exact ⟨by first | rfl | simp, bw⟩
          | ok ts =>
           have HV := Lib.hid (lexV_ok (by rw [HL.out]; omega) hV)
           by_cases ht : ts.length = 1
           · obtain ⟨t, rfl⟩ : ∃ t, ts = [t] := List.length_eq_one_iff.1 ht
             have HNe := Lib.hid (one_not HWb.out hV s_s rfl)
             clear hV ht
             as_aux_lemma =>
              have bw := bel_refl w
              have f1 : (s_s.toList == ([117, 110, 105, 116] : List UInt8)) = false := (own_eq s_s [117, 110, 105, 116] (by decide)).trans (decide_eq_false g1)
              have f2 : (s_s.toList == ([115, 111, 117, 114, 99, 101] : List UInt8)) = false := (own_eq s_s [115, 111, 117, 114, 99, 101] (by decide)).trans (decide_eq_false g2)
              have f3 : (s_s.toList == ([99, 111, 118] : List UInt8)) = false := (own_eq s_s [99, 111, 118] (by decide)).trans (decide_eq_false g3)
              have f4 : (s_s.toList == ([108, 101, 116] : List UInt8)) = false := (own_eq s_s [108, 101, 116] (by decide)).trans (decide_eq_false g4)
              have f5 : (s_s.toList == ([111, 117, 116, 112, 117, 116] : List UInt8)) = false := (own_eq s_s [111, 117, 116, 112, 117, 116] (by decide)).trans (decide_eq_false g5)
              have f6 : (s_s.toList == ([105, 110] : List UInt8)) = false := (own_eq s_s [105, 110] (by decide)).trans (decide_eq_false g6)
              have HN : Hid (isNam (bytesOf s_s) = false) := by show _ = _; unfold isNam; rw [HWb.out]; rfl
              clear g1 g2 g3 g4 g5 g6
              go_wp2_with fail
              refine (lkTokens_c s_s (by omega) w (HT0.out.below bw) [t] (0) (0) HV.out).mono ?_
              rintro e w11 ⟨A_l, n_l, c_l, rfl, h_tl, bn⟩
              replace bw := below_two bw bn
              clear bn
              obtain rfl : n_l = 1 := h_tl.1
              have HU_f := Lib.hid (fitsF (0) (0))
              have h_rf := rowA_new w11 26 (fltC (0) (0))
              have bn := below_new w11 (.cells (fltC (0) (0)) 26)
              replace h_tl := h_tl.below bn
              replace bw := below_two bw bn
              clear bn
              have k0_f := h_rf.cell (k := 0) (v := .int .i64 (0)) rfl
              obtain ⟨g_l, ea, hg_l, hc_l⟩ := h_tl.blk (by simp)
              subst ea
              have hn_l : 1 ≤ c_l := h_tl.2.1
              have hI : InV (w11.alloc (.cells (fltC (0) (0)) 26)) g_l 0 (tkC (t.1 : Int) (strOf t.2.1) (t.2.2 : Int)) := h_tl.inv (i := 0) (t := t) rfl
              have HMt := Lib.hid (many3v (t.1 : Int) (strOf t.2.1) (t.2.2 : Int))
              have heq := fun W => equal_tk (k := (t.1 : Int)) (k' := 1) (s := strOf t.2.1) (s' := s_s) (a := (t.2.2 : Int)) (a' := 0) (b := false) HNe.out W
              have HI_tk := Lib.hid (hI)
              go_wp2_with (first | (refine wpList_loadV (by rfl) _ _ (by rfl) _ _ (by rfl) _ (by assumption) (by assumption) ?_) | (refine wpList_storeNew (by rfl) _ _ _ (by rfl) _ _ _ (by rfl) (by rfl) (by assumption) ?_))
              clear HI_tk k0_f heq
              generalize w11.alloc (.cells (fltC (0) (0)) 26) = w12 at *
              obtain ⟨q_f, eg⟩ : ∃ g, g = w11.heap.size := ⟨_, rfl⟩
              rw [← eg] at h_rf ⊢
              clear eg
              have HTn : Hid (NTab w12) := (HT0.out.below bw).2
              refine (lkIsName_c s_s (by omega) w12 HTn.out false HN.out).mono ?_
              rintro e wx ⟨rfl, rfl⟩
              go_wp2_with fail
              refine (wakes_any w12 (Lib.hid (HT0.out.below bw))).mono ?_
              rintro e w13 ⟨rfl, bn⟩
              replace h_tl := h_tl.below bn
              replace h_rf := h_rf.below bn
              replace bw := below_two bw bn
              clear bn
              go_wp2
              go_ret
              exact ⟨by first | rfl | simp, bw⟩
           · have hts := Lib.hid ht
             clear hV ht
             as_aux_lemma =>
              have bw := bel_refl w
              have f1 : (s_s.toList == ([117, 110, 105, 116] : List UInt8)) = false := (own_eq s_s [117, 110, 105, 116] (by decide)).trans (decide_eq_false g1)
              have f2 : (s_s.toList == ([115, 111, 117, 114, 99, 101] : List UInt8)) = false := (own_eq s_s [115, 111, 117, 114, 99, 101] (by decide)).trans (decide_eq_false g2)
              have f3 : (s_s.toList == ([99, 111, 118] : List UInt8)) = false := (own_eq s_s [99, 111, 118] (by decide)).trans (decide_eq_false g3)
              have f4 : (s_s.toList == ([108, 101, 116] : List UInt8)) = false := (own_eq s_s [108, 101, 116] (by decide)).trans (decide_eq_false g4)
              have f5 : (s_s.toList == ([111, 117, 116, 112, 117, 116] : List UInt8)) = false := (own_eq s_s [111, 117, 116, 112, 117, 116] (by decide)).trans (decide_eq_false g5)
              have f6 : (s_s.toList == ([105, 110] : List UInt8)) = false := (own_eq s_s [105, 110] (by decide)).trans (decide_eq_false g6)
              have HN : Hid (isNam (bytesOf s_s) = false) := by show _ = _; unfold isNam; rw [HWb.out]; rfl
              clear g1 g2 g3 g4 g5 g6
              go_wp2_with fail
              refine (lkTokens_c s_s (by omega) w (HT0.out.below bw) ts (0) (0) HV.out).mono ?_
              rintro e w11 ⟨A_l, n_l, c_l, rfl, h_tl, bn⟩
              replace bw := below_two bw bn
              clear bn
              have HU_f := Lib.hid (fitsF (0) (0))
              have h_rf := rowA_new w11 26 (fltC (0) (0))
              have bn := below_new w11 (.cells (fltC (0) (0)) 26)
              replace h_tl := h_tl.below bn
              replace bw := below_two bw bn
              clear bn
              have k0_f := h_rf.cell (k := 0) (v := .int .i64 (0)) rfl
              have en : ((n_l : Int) == 1) = false := by have h1 := h_tl.1; have h2 := hts.out; rw [beq_eq_false_iff_ne]; omega
              go_wp2_with (refine wpList_storeNew (by rfl) _ _ _ (by rfl) _ _ _ (by rfl) (by rfl) (by assumption) ?_)
              clear k0_f en
              generalize w11.alloc (.cells (fltC (0) (0)) 26) = w12 at *
              obtain ⟨q_f, eg⟩ : ∃ g, g = w11.heap.size := ⟨_, rfl⟩
              rw [← eg] at h_rf ⊢
              clear eg
              have HTn : Hid (NTab w12) := (HT0.out.below bw).2
              refine (lkIsName_c s_s (by omega) w12 HTn.out false HN.out).mono ?_
              rintro e wx ⟨rfl, rfl⟩
              go_wp2_with fail
              refine (wakes_any w12 (Lib.hid (HT0.out.below bw))).mono ?_
              rintro e w13 ⟨rfl, bn⟩
              replace h_tl := h_tl.below bn
              replace h_rf := h_rf.below bn
              replace bw := below_two bw bn
              clear bn
              go_wp2
              go_ret
              exact ⟨by first | rfl | simp, bw⟩
theorem tab_of {W : World} (h : laidMet Tryd.prog Rows.lexNamesRow.laid W) : XTab W := by
 refine ⟨?_, ?_⟩
 · first | exact kinds_tab (laidMet_drop 0 h) (by decide +kernel) | exact kinds_tab (laidMet_drop 1 h) (by decide +kernel) | exact kinds_tab (laidMet_drop 2 h) (by decide +kernel) | exact kinds_tab (laidMet_drop 3 h) (by decide +kernel) | exact kinds_tab (laidMet_drop 4 h) (by decide +kernel) | exact kinds_tab (laidMet_drop 5 h) (by decide +kernel) | exact kinds_tab (laidMet_drop 6 h) (by decide +kernel) | exact kinds_tab (laidMet_drop 7 h) (by decide +kernel) | exact kinds_tab (laidMet_drop 8 h) (by decide +kernel) | exact kinds_tab (laidMet_drop 9 h) (by decide +kernel) | exact kinds_tab (laidMet_drop 10 h) (by decide +kernel) | exact kinds_tab (laidMet_drop 11 h) (by decide +kernel) | exact kinds_tab (laidMet_drop 12 h) (by decide +kernel) | exact kinds_tab (laidMet_drop 13 h) (by decide +kernel)
 · first | exact lkinds_tab (laidMet_drop 0 h) (by decide +kernel) | exact lkinds_tab (laidMet_drop 1 h) (by decide +kernel) | exact lkinds_tab (laidMet_drop 2 h) (by decide +kernel) | exact lkinds_tab (laidMet_drop 3 h) (by decide +kernel) | exact lkinds_tab (laidMet_drop 4 h) (by decide +kernel) | exact lkinds_tab (laidMet_drop 5 h) (by decide +kernel) | exact lkinds_tab (laidMet_drop 6 h) (by decide +kernel) | exact lkinds_tab (laidMet_drop 7 h) (by decide +kernel) | exact lkinds_tab (laidMet_drop 8 h) (by decide +kernel) | exact lkinds_tab (laidMet_drop 9 h) (by decide +kernel) | exact lkinds_tab (laidMet_drop 10 h) (by decide +kernel) | exact lkinds_tab (laidMet_drop 11 h) (by decide +kernel) | exact lkinds_tab (laidMet_drop 12 h) (by decide +kernel) | exact lkinds_tab (laidMet_drop 13 h) (by decide +kernel)
set_option maxRecDepth 100000 in
theorem lifted (os : Os) (started : os.Started) (H : Type) (enc : TypeId × Value → H) :
 ReturnsInHanded {} Tryd.checked os 6 .any (fun w args => (Rows.lexNamesSpec.pre enc Tryd.prog Tryd.f6 [] false w args ∧ laidMetH Tryd.prog Rows.lexNamesRow.laid w) ∧ sizedMet enc Tryd.prog Tryd.f6 (OpenSpec.ofChange Rows.lexNamesSpec) false w args)
  (Rows.lexNamesSpec.post enc Tryd.prog Tryd.f6 false true false false) := by
 refine returnsInHanded_of_change_and (C := Tryd.checked) (X := fun w _ => laidMetH Tryd.prog Rows.lexNamesRow.laid w) (fun _ _ _ hh h => h.of_heap hh) own started (by kernel_rfl) Tryd.func6
  (ChangeSpec.witness_shaped (enc := enc) (C := Tryd.checked) (os := os) (X := fun w _ => laidMetH Tryd.prog Rows.lexNamesRow.laid w) false (World.laidAll Tryd.prog os Rows.lexNamesRow.laid) #[.string ⟨#[]⟩] 8 (World.laidAll_os _ _ _)
    (World.shaped_of_ZipB (by kernel_rfl) (by kernel_rfl)) (by kernel_rfl) (by kernel_rfl) (by kernel_rfl)
    (by rw [MakeChecks.laidMetH_plain _ _ _ (by kernel_rfl)]; exact laidMet_laidAll _ (by kernel_rfl) (by kernel_rfl))) ?_
 intro W base args ds gs before hval0 hW _ _ hL _
 have hval : ∀ (j : Nat) t v, Tryd.f6.params[j]? = some t → args[j]? = some v → Value.okWide Tryd.prog W .any base t v := hval0
 have hW' := hW
 obtain ⟨p, q, hA0, hV, rfl, hfz, hnd⟩ := hW
 have hA : DataW.TrodAll enc Tryd.prog W 0 (fun _ => true) true Tryd.f6.params.toList args.toList ds p := hA0
 rw [Tryd.params6] at hA hval
 obtain ⟨v0, vs0, d0, ds0, p0, q0, hargs, rfl, rfl, h0, r0⟩ := trodAll_cons hA
 obtain ⟨rfl, rfl, rfl⟩ := trodAll_nil r0
 obtain rfl : args = #[v0] := by cases args; simp_all
 obtain ⟨rfl, rfl⟩ := trodVars_none hV
 obtain ⟨a0, rfl, rfl, rfl, w0⟩ := Go.ChangeMaps.open_string Tryd.underlying9 (hval 0 9 v0 rfl rfl) h0
 clear hA0 hval0
 simp only [List.append_nil] at hW'
 rw [MakeChecks.laidMetH_plain _ _ _ (by kernel_rfl)] at hL
 refine (walk a0 W w0 (tab_of hL)).mono fun e W' ⟨he, bel⟩ => ?_
 subst he
 exact ⟨_, rfl, _, _, _, [], _, [], hW', trodAll_mk1 (shut_bool Tryd.underlying4 _), (trodAll_cons_mk (Go.ChangeMaps.shut_string Tryd.underlying9 w0) trodAll_mk0), rfl, bel.frame _, fun h => by cases h⟩
theorem over : Rows.lexNamesRow.holds Tryd.pinned (OpenSpec.ofChange Rows.lexNamesSpec) :=
 OpenClaim.holds_of_wide 6 Tryd.f6 rfl rfl rfl rfl rfl rfl rfl ⟨rfl, rfl, rfl, rfl, rfl⟩ rfl rfl rfl rfl rfl (by kernel_rfl) Tryd.func6 (by kernel_rfl)
  (of_decide_eq_true (by kernel_rfl)) (by unfold Func.isWrapper; first | (rw [if_pos (by decide +kernel)]; kernel_rfl) | (rw [if_neg (by decide +kernel)]; exact ⟨rfl, rfl⟩))
  (fun os started H enc _ => lifted os started H enc)
theorem proved : Rows.LexNamesCardSaid :=
 Claim7.holds_tied_plain_at .later [] Rows.lexNamesCard.laidKinds true Rows.lexNamesCard.stood.harness Rows.lexNamesCard.stood.looks
  over (fun _ h => by cases h) (by kernel_rfl) (fun _ h => by cases h) lexNames_row_tie rfl ⟨rfl, rfl⟩ (by kernel_rfl) rfl
  (fun f fn hf hfn => by
    obtain rfl : f = 6 := Option.some.inj ((show Tryd.prog.funcNamed Rows.lexNamesRow.func = some 6 by kernel_rfl).symm.trans hf) |>.symm
    obtain rfl : fn = Tryd.f6 := (Option.some.inj (Tryd.func6.symm.trans hfn)).symm
    exact ⟨by kernel_rfl, fun j t ht => by
     have hm : t ∈ Tryd.f6.params.toList := by simpa using Array.mem_of_getElem? ht
     have hall : (Tryd.f6.params.toList.all fun u => !Tryd.prog.wantsStandIn u) = true := by kernel_rfl
     exact (show Tryd.prog.wantsStandIn t = false by simpa using List.all_eq_true.1 hall t hm)⟩)
  (by kernel_rfl)
end Go.Proofs.YthjnepfpohmpkaaDoor.lawLexNames
