/- Part 3 of the texts that the statements of this seat lean on: mathematics, and what functions answer, as contracts over memory; each part says its own conditions. -/
import Derived.Test.YtbddhflmknaadaaDoorM2
import Derived.Test.YtbddhflmknaadaaDoorShelf
import Derived.Lib.IndexLaws
import Derived.BigQuiet
import Derived.Deep.QuietTactic
import Derived.Shelf.Small.Utf8
import Derived.Lib.TrimU
import Derived.Lib.OthersKept
import Derived.WalkMore
/- What strings.Cut at one byte answers, as contracts over memory. Condition: a text of at most 10^9 bytes. -/
namespace Go.Proofs.YtbddhflmknaadaaDoor
open Go.RowKit Limb
set_option linter.unusedVariables false
end Go.Proofs.YtbddhflmknaadaaDoor

/- What package lex's kindAt, wordLength, lineLength, numberLength, unitsLength answer, as contracts over memory. Conditions: texts that can be read; the tables of kinds read as they are laid. -/
namespace Go.Proofs.YtbddhflmknaadaaDoor
open Go.RowKit Limb
set_option linter.unusedVariables false
theorem lkN_in {s : ByteArray} {k v : Nat} (h : lkN (lim (bytesOf s) k) = v) (h0 : v ≠ 0) : k < (bytesOf s).length := by
 rcases Nat.lt_or_ge k (bytesOf s).length with h2 | h2
 · exact h2
 · rw [lim_past h2] at h; exact absurd h.symm h0
set_option maxHeartbeats 2000000 in
set_option maxRecDepth 4000 in
theorem lkAt_c (s : ByteArray) (hs : s.size ≤ 9223372036854775807) (i : Nat) (V : Int) (hV : V = i) (w : World) (T : NTab w) (v : Nat) (hv : lkN (lim (bytesOf s) i) = v) :
 Calls Tryd.prog 55 #[.string s, .int .i64 V] w fun e w' => e = .returned (.int .u8 (v : Int)) ∧ w = w' := by
 subst hV
 by_cases hlt : i < s.size
 · obtain ⟨d, hd⟩ : ∃ d, (s[i]'hlt).toNat = d := ⟨_, rfl⟩
   have hdl : lim (bytesOf s) i = d := by rw [← Limb.byte_at s i hlt, hd]
   have hd2 : d < 256 := by rw [← hd]; exact UInt8.toNat_lt _
   rw [hdl] at hv
   by_cases h1 : d < 123
   · have hc := T d h1
     rw [hv] at hc
     clear hv hdl T
     go_enter Tryd.func55, Tryd.ntmps55
     go_wp2
     go_ret
     exact ⟨rfl, rfl⟩
   · have h2 : 123 ≤ d := by omega
     rw [lkN_big h2] at hv
     subst hv
     clear hdl T h1
     go_enter Tryd.func55, Tryd.ntmps55
     go_wp2
     go_ret
     exact ⟨rfl, rfl⟩
 · have h2 : s.size ≤ i := by omega
   have h0 : lim (bytesOf s) i = 0 := lim_past (by rw [length_bytesOf]; exact h2)
   rw [h0] at hv
   obtain rfl : v = 0 := by rw [← hv]; rfl
   clear hv h0 T hlt
   go_enter Tryd.func55, Tryd.ntmps55
   go_wp2
   go_ret
   exact ⟨rfl, rfl⟩
set_option maxHeartbeats 2000000 in
set_option maxRecDepth 4000 in
theorem lkWord_c (s : ByteArray) (hs : s.size ≤ 9223372036854775807) (w : World) (T : NTab w) (n : Nat) (hn : wordL (bytesOf s) = n) :
 Calls Tryd.prog 48 #[.string s] w fun e w' => e = .returned (.int .i64 (n : Int)) ∧ w = w' := by
 have HT := Lib.hid T
 have Hn := Lib.hid hn
 clear T hn
 go_enter Tryd.func48, Tryd.ntmps48
 go_wp2
 go_loopw [3] (fun i wr => ∃ k : Nat, i = .int .i64 (k : Int) ∧ k ≤ s.size ∧ Hid (k ≤ wordN (bytesOf s)) ∧ w = wr) (fun i _ => s.size - (intOf i).toNat)
 case atStart => exact ⟨0, rfl, Nat.zero_le _, Nat.zero_le _, rfl⟩
 case round =>
  obtain ⟨k, rfl, hk, HK, rfl⟩ := hrel
  obtain ⟨v, hv⟩ : ∃ v, lkN (lim (bytesOf s) k) = v := ⟨_, rfl⟩
  have HV := Lib.hid hv
  have HA := Lib.hid (lkN_all _ (byte_lt s k))
  clear hv
  by_cases h3 : v = 3
  · subst h3
    have HK2 : Hid (k + 1 ≤ wordN (bytesOf s)) := word_step HK.out (lkN_in HV.out (by omega)) (by unfold wdAt; rw [HA.out.2.2.1.1 HV.out]; rfl)
    have hk4 : k < s.size := by have := lkN_in HV.out (by omega); rw [length_bytesOf] at this; exact this
    clear HK
    go_wp2_with (go_at_call 55; refine (lkAt_c s hs k _ rfl _ HT.out _ HV.out).mono ?_; rintro e w1 ⟨rfl, rfl⟩)
    go_roundw
    case rel => exact ⟨k + 1, by go_num, by omega, HK2, by first | rfl | trivial⟩
    case measure => simp [intOf]; omega
  · have HL3 : Hid (isLt (lim (bytesOf s) k) = false) := by
     show _ = _
     rcases Bool.eq_false_or_eq_true (isLt (lim (bytesOf s) k)) with e | e
     · exact absurd (HV.out.symm.trans (HA.out.2.2.1.2 e)) h3
     · exact e
    have e3 : ((v : Int) == 3) = false := by rw [beq_eq_false_iff_ne]; omega
    by_cases k0 : k = 0
    · subst k0
      obtain ⟨k, ek⟩ : ∃ k, k = 0 := ⟨_, rfl⟩
      rw [← ek] at HK HV HL3 HA
      have HE : Hid (wordN (bytesOf s) = k) := word_stop HK.out (fun _ => by unfold wdAt; rw [HL3.out, ek]; rfl)
      clear HK
      subst ek
      have HR : Hid (n = 0) := by show _ = _; rw [← Hn.out]; unfold wordL; rw [HE.out]; rfl
      clear HE
      go_wp2_with (go_at_call 55; refine (lkAt_c s hs 0 _ rfl _ HT.out _ HV.out).mono ?_; rintro e w1 ⟨rfl, rfl⟩)
      go_ret
      exact ⟨by rw [HR.out]; rfl, rfl⟩
    · have k1 : 0 < k := by omega
      by_cases h4 : v = 4
      · subst h4
        have HK2 : Hid (k + 1 ≤ wordN (bytesOf s)) := word_step HK.out (lkN_in HV.out (by omega)) (by unfold wdAt; rw [HA.out.2.2.2.1.1 HV.out, HL3.out, decide_eq_true k1]; rfl)
        have hk4 : k < s.size := by have := lkN_in HV.out (by omega); rw [length_bytesOf] at this; exact this
        clear HK
        go_wp2_with (go_at_call 55; refine (lkAt_c s hs k _ rfl _ HT.out _ HV.out).mono ?_; rintro e w1 ⟨rfl, rfl⟩)
        go_roundw
        case rel => exact ⟨k + 1, by go_num, by omega, HK2, by first | rfl | trivial⟩
        case measure => simp [intOf]; omega
      · have HL4 : Hid (isDig (lim (bytesOf s) k) = false) := by
         show _ = _
         rcases Bool.eq_false_or_eq_true (isDig (lim (bytesOf s) k)) with e | e
         · exact absurd (HV.out.symm.trans (HA.out.2.2.2.1.2 e)) h4
         · exact e
        have e4 : ((v : Int) == 4) = false := by rw [beq_eq_false_iff_ne]; omega
        have HE : Hid (wordN (bytesOf s) = k) := word_stop HK.out (fun _ => by unfold wdAt; rw [HL3.out, HL4.out, Bool.and_false]; rfl)
        clear HK
        by_cases h16 : 16 < k
        · have HR : Hid (n = 0) := by show _ = _; rw [← Hn.out]; unfold wordL; rw [HE.out, if_pos h16]
          clear HE
          go_wp2_with (go_at_call 55; refine (lkAt_c s hs k _ rfl _ HT.out _ HV.out).mono ?_; rintro e w1 ⟨rfl, rfl⟩)
          go_ret
          exact ⟨by rw [HR.out]; rfl, rfl⟩
        · have HR : Hid (n = k) := by show _ = _; rw [← Hn.out]; unfold wordL; rw [HE.out, if_neg h16]
          clear HE
          go_wp2_with (go_at_call 55; refine (lkAt_c s hs k _ rfl _ HT.out _ HV.out).mono ?_; rintro e w1 ⟨rfl, rfl⟩)
          go_ret
          exact ⟨by rw [HR.out]; rfl, rfl⟩
end Go.Proofs.YtbddhflmknaadaaDoor

/- What strings.Clone and package lex's gapLength, first, textOf, IsName answer, as contracts over memory. Conditions: texts of at most 10^9 bytes; the tables of kinds read as they are laid. -/
namespace Go.Proofs.YtbddhflmknaadaaDoor
open Go.RowKit Limb
set_option linter.unusedVariables false
set_option maxHeartbeats 2000000 in
set_option maxRecDepth 4000 in
theorem sClone_c (s : ByteArray) (hs : s.size ≤ 1000000000) (w : World) :
 Calls Tryd.prog 49 #[.string s] w fun e w' => e = .returned (.string s) ∧ Below w.heap.size w w' := by
 have HC := Lib.hid (Any.stringslite_Clone Tryd.laysM316 s w (by omega))
 go_enter Tryd.func49, Tryd.ntmps49
 go_wp2_with fail
 refine HC.out.mono ?_
 rintro e w1 ⟨rfl, bn⟩
 have HB := Lib.hid bn
 clear bn
 go_wp2
 go_ret
 exact ⟨rfl, HB.out⟩
theorem own_eq (s : ByteArray) (W : List Nat) (hB : W.all (fun x => decide (x < 256)) = true) : (s.toList == W.map UInt8.ofNat) = decide (bytesOf s = W) := by
 have hW : Bytes W := fun x hx => of_decide_eq_true (List.all_eq_true.1 hB x hx)
 have := str_beq (a := bytesOf s) (b := W) (bytes_bytesOf s) hW
 rwa [strOf_bytesOf, toList_strOf] at this
set_option maxHeartbeats 2000000 in
set_option maxRecDepth 4000 in
theorem lkIsName_c (s : ByteArray) (hs : s.size ≤ 9223372036854775807) (w : World) (T : NTab w) (v : Bool) (hv : isNam (bytesOf s) = v) :
 Calls Tryd.prog 41 #[.string s] w fun e w' => e = .returned (.bool v) ∧ w = w' := by
 have HL := Lib.hid (length_bytesOf s)
 have HT := Lib.hid T
 have Hv := Lib.hid hv
 clear T hv
 by_cases h0 : bytesOf s = []
 · have f0 : (s.toList == ([] : List UInt8)) = true := (own_eq s [] (by decide)).trans (decide_eq_true h0)
   have HV : Hid (v = false) := by show _ = _; rw [← Hv.out, h0]; decide
   clear h0
   go_enter Tryd.func41, Tryd.ntmps41
   go_wp2
   go_ret
   exact ⟨by rw [HV.out]; rfl, rfl⟩
 · have f0 : (s.toList == ([] : List UInt8)) = false := (own_eq s [] (by decide)).trans (decide_eq_false h0)
   by_cases h1 : bytesOf s = [117, 110, 105, 116]
   · have f1 : (s.toList == ([117, 110, 105, 116] : List UInt8)) = true := (own_eq s [117, 110, 105, 116] (by decide)).trans (decide_eq_true h1)
     have HV : Hid (v = false) := by show _ = _; rw [← Hv.out, h1]; decide
     clear h1
     go_enter Tryd.func41, Tryd.ntmps41
     go_wp2
     go_ret
     exact ⟨by rw [HV.out]; rfl, rfl⟩
   · have f1 : (s.toList == ([117, 110, 105, 116] : List UInt8)) = false := (own_eq s [117, 110, 105, 116] (by decide)).trans (decide_eq_false h1)
     by_cases h2 : bytesOf s = [115, 111, 117, 114, 99, 101]
     · have f2 : (s.toList == ([115, 111, 117, 114, 99, 101] : List UInt8)) = true := (own_eq s [115, 111, 117, 114, 99, 101] (by decide)).trans (decide_eq_true h2)
       have HV : Hid (v = false) := by show _ = _; rw [← Hv.out, h2]; decide
       clear h2
       go_enter Tryd.func41, Tryd.ntmps41
       go_wp2
       go_ret
       exact ⟨by rw [HV.out]; rfl, rfl⟩
     · have f2 : (s.toList == ([115, 111, 117, 114, 99, 101] : List UInt8)) = false := (own_eq s [115, 111, 117, 114, 99, 101] (by decide)).trans (decide_eq_false h2)
       by_cases h3 : bytesOf s = [99, 111, 118]
       · have f3 : (s.toList == ([99, 111, 118] : List UInt8)) = true := (own_eq s [99, 111, 118] (by decide)).trans (decide_eq_true h3)
         have HV : Hid (v = false) := by show _ = _; rw [← Hv.out, h3]; decide
         clear h3
         go_enter Tryd.func41, Tryd.ntmps41
         go_wp2
         go_ret
         exact ⟨by rw [HV.out]; rfl, rfl⟩
       · have f3 : (s.toList == ([99, 111, 118] : List UInt8)) = false := (own_eq s [99, 111, 118] (by decide)).trans (decide_eq_false h3)
         by_cases h4 : bytesOf s = [108, 101, 116]
         · have f4 : (s.toList == ([108, 101, 116] : List UInt8)) = true := (own_eq s [108, 101, 116] (by decide)).trans (decide_eq_true h4)
           have HV : Hid (v = false) := by show _ = _; rw [← Hv.out, h4]; decide
           clear h4
           go_enter Tryd.func41, Tryd.ntmps41
           go_wp2
           go_ret
           exact ⟨by rw [HV.out]; rfl, rfl⟩
         · have f4 : (s.toList == ([108, 101, 116] : List UInt8)) = false := (own_eq s [108, 101, 116] (by decide)).trans (decide_eq_false h4)
           by_cases h5 : bytesOf s = [111, 117, 116, 112, 117, 116]
           · have f5 : (s.toList == ([111, 117, 116, 112, 117, 116] : List UInt8)) = true := (own_eq s [111, 117, 116, 112, 117, 116] (by decide)).trans (decide_eq_true h5)
             have HV : Hid (v = false) := by show _ = _; rw [← Hv.out, h5]; decide
             clear h5
             go_enter Tryd.func41, Tryd.ntmps41
             go_wp2
             go_ret
             exact ⟨by rw [HV.out]; rfl, rfl⟩
           · have f5 : (s.toList == ([111, 117, 116, 112, 117, 116] : List UInt8)) = false := (own_eq s [111, 117, 116, 112, 117, 116] (by decide)).trans (decide_eq_false h5)
             by_cases h6 : bytesOf s = [105, 110]
             · have f6 : (s.toList == ([105, 110] : List UInt8)) = true := (own_eq s [105, 110] (by decide)).trans (decide_eq_true h6)
               have HV : Hid (v = false) := by show _ = _; rw [← Hv.out, h6]; decide
               clear h6
               go_enter Tryd.func41, Tryd.ntmps41
               go_wp2
               go_ret
               exact ⟨by rw [HV.out]; rfl, rfl⟩
             · have f6 : (s.toList == ([105, 110] : List UInt8)) = false := (own_eq s [105, 110] (by decide)).trans (decide_eq_false h6)
               have hown : ownW (bytesOf s) = false := by
                unfold ownW
                simp only [List.contains_cons, List.contains_nil, Bool.or_false, Bool.or_eq_false_iff, beq_eq_false_iff_ne]
                exact ⟨h1, h2, h3, h4, h5, h6⟩
               obtain ⟨n, hn⟩ : ∃ n, wordL (bytesOf s) = n := ⟨_, rfl⟩
               have HV : Hid (v = decide (n = s.size)) := by
                show _ = _
                rw [← Hv.out, ← hn, ← HL.out, wordL_is _ h0]
                unfold isNam
                rw [hown, Bool.not_false, Bool.and_true]
               have HN := Lib.hid hn
               clear hown hn h0 h1 h2 h3 h4 h5 h6
               go_enter Tryd.func41, Tryd.ntmps41
               go_wp2_with (go_at_call 48; (with_reducible refine (lkWord_c s hs w HT.out n HN.out).mono ?_); rintro e w1 ⟨rfl, rfl⟩)
               go_ret
               refine ⟨?_, rfl⟩
               rw [HV.out]
               refine ret_bool ?_
               rw [Bool.eq_iff_iff]
               simp
               try omega
end Go.Proofs.YtbddhflmknaadaaDoor

/- What package tree's own, endingAt, startOf, alike answer, as contracts over memory. Conditions: starts that lie not behind their nodes. -/
namespace Go.Proofs.YtbddhflmknaadaaDoor
open Go.RowKit Limb
set_option linter.unusedVariables false
def ownN (x : Nd) : Nd :=
 if x.k = 1 then ⟨x.k, 0, 0, 0, x.t, x.u, x.p⟩ else if x.k = 2 then ⟨x.k, 0, 0, 0, x.t, ⟨#[]⟩, x.p⟩ else if twoK x.k = true then ⟨x.k, x.a, x.b, 0, ⟨#[]⟩, ⟨#[]⟩, x.p⟩
 else if x.k = 7 then ⟨x.k, x.a, 0, 0, ⟨#[]⟩, ⟨#[]⟩, x.p⟩ else if x.k = 8 then ⟨x.k, x.a, 0, x.n, ⟨#[]⟩, ⟨#[]⟩, x.p⟩ else zNd
theorem two_no {k : Int} (h3 : ¬ k = 3) (h4 : ¬ k = 4) (h5 : ¬ k = 5) (h6 : ¬ k = 6) : ¬ twoK k = true := fun e => by have := twoK_iff.1 e; omega
set_option maxHeartbeats 4000000 in
set_option maxRecDepth 100000 in
theorem tOwn_c (k a b n : Int) (t u : ByteArray) (p : Int) (V : Array Value) (hV : ndV (ownN ⟨k, a, b, n, t, u, p⟩) = V) (w : World) :
 Calls Tryd.prog 38 #[.agg (ndC k a b n t u p)] w fun e w' => e = .returned (.agg V) ∧ Below w.heap.size w w' := by
 have HZ := Lib.hid (rowA_new (w.alloc (.cells (ndC k a b n t u p) 37)) 37 zN)
 simp only [World.size_alloc] at HZ
 have bw := below_new w (.cells (ndC k a b n t u p) 37)
 have bw2 := below_two bw (below_new (w.alloc (.cells (ndC k a b n t u p) 37)) (.cells zN 37))
 have HE := Lib.hid (below_fillRow bw2 (g := w.heap.size + 1) (by omega) V)
 have HU := Lib.hid (fitsNd (ownN ⟨k, a, b, n, t, u, p⟩) zNd)
 rw [hV] at HU
 have HR := Lib.hid (HZ.out.fill (V' := V))
 have HV2 := Lib.hid hV
 clear bw bw2 hV
 by_cases h1 : k = 1
 · subst h1
   have HVe : Hid (V = ndC 1 0 0 0 t u p) := by show _ = _; rw [← HV2.out]; unfold ownN; dsimp only; rw [if_pos rfl]; rfl
   have HB := Lib.hid (show ∀ W, (Instr.build 37 ([(0, .int .i64 1), (4, .string t), (5, .string u), (6, .int .i64 p)] : List (Nat × Value)).toArray).run Tryd.prog W = .ok (.agg V) W by intro W; rw [HVe.out]; kernel_rfl)
   clear HVe HV2
   go_enter Tryd.func38, Tryd.ntmps38
   go_wp2_with (first | (refine wpList_buildV (by rfl) _ _ (by rfl) _ (by rfl) _ (by assumption) ?_) | (refine wpList_storeV (by rfl) _ _ _ (by rfl) _ (by rfl) _ (by rfl) _ _ HZ HU ?_))
   refine bodyPost_ret (results_cell_row rfl _ _ _ 37 V (0, 0) _ rfl HR.out Tryd.underlying37 rfl (by first | exact HU.out.1.1 | skip)) rfl ?_
   exact ⟨rfl, HE.out⟩
 · have e1 : (k == 1) = false := by rw [beq_eq_false_iff_ne]; exact h1
   by_cases h2 : k = 2
   · subst h2
     have HVe : Hid (V = ndC 2 0 0 0 t ⟨#[]⟩ p) := by show _ = _; rw [← HV2.out]; unfold ownN; dsimp only; rw [if_neg (by decide), if_pos rfl]; rfl
     have HB := Lib.hid (show ∀ W, (Instr.build 37 ([(0, .int .i64 2), (4, .string t), (6, .int .i64 p)] : List (Nat × Value)).toArray).run Tryd.prog W = .ok (.agg V) W by intro W; rw [HVe.out]; kernel_rfl)
     clear HVe HV2
     go_enter Tryd.func38, Tryd.ntmps38
     go_wp2_with (first | (refine wpList_buildV (by rfl) _ _ (by rfl) _ (by rfl) _ (by assumption) ?_) | (refine wpList_storeV (by rfl) _ _ _ (by rfl) _ (by rfl) _ (by rfl) _ _ HZ HU ?_))
     refine bodyPost_ret (results_cell_row rfl _ _ _ 37 V (0, 0) _ rfl HR.out Tryd.underlying37 rfl (by first | exact HU.out.1.1 | skip)) rfl ?_
     exact ⟨rfl, HE.out⟩
   · have e2 : (k == 2) = false := by rw [beq_eq_false_iff_ne]; exact h2
     by_cases h3 : k = 3
     · subst h3
       have HVe : Hid (V = ndC 3 a b 0 ⟨#[]⟩ ⟨#[]⟩ p) := by show _ = _; rw [← HV2.out]; unfold ownN; dsimp only; rw [if_neg (by decide), if_neg (by decide), if_pos (by decide)]; rfl
       have HB := Lib.hid (show ∀ W, (Instr.build 37 ([(0, .int .i64 3), (1, .int .i64 a), (2, .int .i64 b), (6, .int .i64 p)] : List (Nat × Value)).toArray).run Tryd.prog W = .ok (.agg V) W by intro W; rw [HVe.out]; kernel_rfl)
       clear HVe HV2
       go_enter Tryd.func38, Tryd.ntmps38
       go_wp2_with (first | (refine wpList_buildV (by rfl) _ _ (by rfl) _ (by rfl) _ (by assumption) ?_) | (refine wpList_storeV (by rfl) _ _ _ (by rfl) _ (by rfl) _ (by rfl) _ _ HZ HU ?_))
       refine bodyPost_ret (results_cell_row rfl _ _ _ 37 V (0, 0) _ rfl HR.out Tryd.underlying37 rfl (by first | exact HU.out.1.1 | skip)) rfl ?_
       exact ⟨rfl, HE.out⟩
     · have e3 : (k == 3) = false := by rw [beq_eq_false_iff_ne]; exact h3
       by_cases h4 : k = 4
       · subst h4
         have HVe : Hid (V = ndC 4 a b 0 ⟨#[]⟩ ⟨#[]⟩ p) := by show _ = _; rw [← HV2.out]; unfold ownN; dsimp only; rw [if_neg (by decide), if_neg (by decide), if_pos (by decide)]; rfl
         have HB := Lib.hid (show ∀ W, (Instr.build 37 ([(0, .int .i64 4), (1, .int .i64 a), (2, .int .i64 b), (6, .int .i64 p)] : List (Nat × Value)).toArray).run Tryd.prog W = .ok (.agg V) W by intro W; rw [HVe.out]; kernel_rfl)
         clear HVe HV2
         go_enter Tryd.func38, Tryd.ntmps38
         go_wp2_with (first | (refine wpList_buildV (by rfl) _ _ (by rfl) _ (by rfl) _ (by assumption) ?_) | (refine wpList_storeV (by rfl) _ _ _ (by rfl) _ (by rfl) _ (by rfl) _ _ HZ HU ?_))
         refine bodyPost_ret (results_cell_row rfl _ _ _ 37 V (0, 0) _ rfl HR.out Tryd.underlying37 rfl (by first | exact HU.out.1.1 | skip)) rfl ?_
         exact ⟨rfl, HE.out⟩
       · have e4 : (k == 4) = false := by rw [beq_eq_false_iff_ne]; exact h4
         by_cases h5 : k = 5
         · subst h5
           have HVe : Hid (V = ndC 5 a b 0 ⟨#[]⟩ ⟨#[]⟩ p) := by show _ = _; rw [← HV2.out]; unfold ownN; dsimp only; rw [if_neg (by decide), if_neg (by decide), if_pos (by decide)]; rfl
           have HB := Lib.hid (show ∀ W, (Instr.build 37 ([(0, .int .i64 5), (1, .int .i64 a), (2, .int .i64 b), (6, .int .i64 p)] : List (Nat × Value)).toArray).run Tryd.prog W = .ok (.agg V) W by intro W; rw [HVe.out]; kernel_rfl)
           clear HVe HV2
           go_enter Tryd.func38, Tryd.ntmps38
           go_wp2_with (first | (refine wpList_buildV (by rfl) _ _ (by rfl) _ (by rfl) _ (by assumption) ?_) | (refine wpList_storeV (by rfl) _ _ _ (by rfl) _ (by rfl) _ (by rfl) _ _ HZ HU ?_))
           refine bodyPost_ret (results_cell_row rfl _ _ _ 37 V (0, 0) _ rfl HR.out Tryd.underlying37 rfl (by first | exact HU.out.1.1 | skip)) rfl ?_
           exact ⟨rfl, HE.out⟩
         · have e5 : (k == 5) = false := by rw [beq_eq_false_iff_ne]; exact h5
           by_cases h6 : k = 6
           · subst h6
             have HVe : Hid (V = ndC 6 a b 0 ⟨#[]⟩ ⟨#[]⟩ p) := by show _ = _; rw [← HV2.out]; unfold ownN; dsimp only; rw [if_neg (by decide), if_neg (by decide), if_pos (by decide)]; rfl
             have HB := Lib.hid (show ∀ W, (Instr.build 37 ([(0, .int .i64 6), (1, .int .i64 a), (2, .int .i64 b), (6, .int .i64 p)] : List (Nat × Value)).toArray).run Tryd.prog W = .ok (.agg V) W by intro W; rw [HVe.out]; kernel_rfl)
             clear HVe HV2
             go_enter Tryd.func38, Tryd.ntmps38
             go_wp2_with (first | (refine wpList_buildV (by rfl) _ _ (by rfl) _ (by rfl) _ (by assumption) ?_) | (refine wpList_storeV (by rfl) _ _ _ (by rfl) _ (by rfl) _ (by rfl) _ _ HZ HU ?_))
             refine bodyPost_ret (results_cell_row rfl _ _ _ 37 V (0, 0) _ rfl HR.out Tryd.underlying37 rfl (by first | exact HU.out.1.1 | skip)) rfl ?_
             exact ⟨rfl, HE.out⟩
           · have e6 : (k == 6) = false := by rw [beq_eq_false_iff_ne]; exact h6
             by_cases h7 : k = 7
             · subst h7
               have HVe : Hid (V = ndC 7 a 0 0 ⟨#[]⟩ ⟨#[]⟩ p) := by show _ = _; rw [← HV2.out]; unfold ownN; dsimp only; rw [if_neg (by decide), if_neg (by decide), if_neg (by decide), if_pos rfl]; rfl
               have HB := Lib.hid (show ∀ W, (Instr.build 37 ([(0, .int .i64 7), (1, .int .i64 a), (6, .int .i64 p)] : List (Nat × Value)).toArray).run Tryd.prog W = .ok (.agg V) W by intro W; rw [HVe.out]; kernel_rfl)
               clear HVe HV2
               go_enter Tryd.func38, Tryd.ntmps38
               go_wp2_with (first | (refine wpList_buildV (by rfl) _ _ (by rfl) _ (by rfl) _ (by assumption) ?_) | (refine wpList_storeV (by rfl) _ _ _ (by rfl) _ (by rfl) _ (by rfl) _ _ HZ HU ?_))
               refine bodyPost_ret (results_cell_row rfl _ _ _ 37 V (0, 0) _ rfl HR.out Tryd.underlying37 rfl (by first | exact HU.out.1.1 | skip)) rfl ?_
               exact ⟨rfl, HE.out⟩
             · have e7 : (k == 7) = false := by rw [beq_eq_false_iff_ne]; exact h7
               by_cases h8 : k = 8
               · subst h8
                 have HVe : Hid (V = ndC 8 a 0 n ⟨#[]⟩ ⟨#[]⟩ p) := by show _ = _; rw [← HV2.out]; unfold ownN; dsimp only; rw [if_neg (by decide), if_neg (by decide), if_neg (by decide), if_neg (by decide), if_pos rfl]; rfl
                 have HB := Lib.hid (show ∀ W, (Instr.build 37 ([(0, .int .i64 8), (1, .int .i64 a), (3, .int .i64 n), (6, .int .i64 p)] : List (Nat × Value)).toArray).run Tryd.prog W = .ok (.agg V) W by intro W; rw [HVe.out]; kernel_rfl)
                 clear HVe HV2
                 go_enter Tryd.func38, Tryd.ntmps38
                 go_wp2_with (first | (refine wpList_buildV (by rfl) _ _ (by rfl) _ (by rfl) _ (by assumption) ?_) | (refine wpList_storeV (by rfl) _ _ _ (by rfl) _ (by rfl) _ (by rfl) _ _ HZ HU ?_))
                 refine bodyPost_ret (results_cell_row rfl _ _ _ 37 V (0, 0) _ rfl HR.out Tryd.underlying37 rfl (by first | exact HU.out.1.1 | skip)) rfl ?_
                 exact ⟨rfl, HE.out⟩
               · have e8 : (k == 8) = false := by rw [beq_eq_false_iff_ne]; exact h8
                 have HVe : Hid (V = zN) := by show _ = _; rw [← HV2.out]; unfold ownN; dsimp only; rw [if_neg h1, if_neg h2, if_neg (two_no h3 h4 h5 h6), if_neg h7, if_neg h8]; rfl
                 have HB := Lib.hid (show ∀ W, (Instr.build 37 ([] : List (Nat × Value)).toArray).run Tryd.prog W = .ok (.agg V) W by intro W; rw [HVe.out]; kernel_rfl)
                 clear HVe HV2
                 go_enter Tryd.func38, Tryd.ntmps38
                 go_wp2_with (first | (refine wpList_buildV (by rfl) _ _ (by rfl) _ (by rfl) _ (by assumption) ?_) | (refine wpList_storeV (by rfl) _ _ _ (by rfl) _ (by rfl) _ (by rfl) _ _ HZ HU ?_))
                 refine bodyPost_ret (results_cell_row rfl _ _ _ 37 V (0, 0) _ rfl HR.out Tryd.underlying37 rfl (by first | exact HU.out.1.1 | skip)) rfl ?_
                 exact ⟨rfl, HE.out⟩
def NuR (w : World) (g : Nat) (T : TypeId) (o : List Nat) (k : Nat) : Prop := RowA w g T (ints .i64 (o.map Int.ofNat ++ List.replicate k 0))
theorem NuR.cell {w : World} {g : Nat} {T : TypeId} {o : List Nat} {k : Nat} (h : NuR w g T o k) {j : Nat} (hj : j < o.length) : w.cell? ⟨g, j, none⟩ = some (.int .i64 ((o.getD j 0 : Nat) : Int)) := by
 have h1 := RowA.int (i := j) h (by rw [List.length_append, List.length_map]; omega)
 rw [h1]
 congr 2
 rw [List.getD_eq_getElem?_getD, List.getElem?_append_left (by rw [List.length_map]; exact hj), List.getElem?_map, List.getD_eq_getElem?_getD, List.getElem?_eq_getElem hj]
 rfl
theorem NuR.below {w w' : World} {g : Nat} {T : TypeId} {o : List Nat} {k : Nat} (h : NuR w g T o k) (hb : Below w.heap.size w w') : NuR w' g T o k := RowA.below h hb
theorem NuR.lt {w : World} {g : Nat} {T : TypeId} {o : List Nat} {k : Nat} (h : NuR w g T o k) : g < w.heap.size := RowA.lt h
theorem NuR.room {w : World} {g : Nat} {T : TypeId} {o : List Nat} {k : Nat} (h : NuR w g T o (k + 1)) : ∃ v, w.cell? ⟨g, o.length, none⟩ = some (.int .i64 v) ∧ w.frozen? ⟨g, o.length, none⟩ = false :=
 ⟨_, RowA.int (i := o.length) h (by rw [List.length_append, List.length_map, List.length_replicate]; omega), RowA.free h _⟩
theorem NuR.store {w : World} {g : Nat} {T : TypeId} {o : List Nat} {k : Nat} (h : NuR w g T o (k + 1)) (s : Nat) : NuR (w.setCell ⟨g, o.length, none⟩ (.int .i64 (s : Int))) g T (o ++ [s]) k := by
 have h1 := RowA.setInt h o.length (s : Int)
 unfold NuR
 rw [List.map_append, List.append_assoc]
 rw [List.set_append_right (h := by rw [List.length_map]; exact Nat.le_refl _), List.length_map, Nat.sub_self, List.replicate_succ, List.set_cons_zero] at h1
 exact h1
set_option maxHeartbeats 4000000 in
set_option maxRecDepth 100000 in
theorem tEnd_no {o : List Nat} {c : Int} {m : Nat} (hm : m ≤ o.length) (hl : o.length ≤ 1000000) {g : Nat} {T : TypeId} {k cap : Nat} {w : World} (hr : NuR w g T o k) (hE : endN o c m = none) :
 Calls Tryd.prog 37 #[.int .i64 c, .int .i64 (m : Int), .slice (some ⟨g, 0, none⟩) o.length cap] w fun e w' => e = .returned (.tuple #[.int .i64 0, .bool false]) ∧ w = w' := by
 have hc : ¬ (0 ≤ c ∧ c + 1 = (m : Int)) := fun h => by unfold endN at hE; rw [if_pos h] at hE; cases hE
 clear hE hr
 by_cases h0 : c < 0
 · clear hc
   go_enter Tryd.func37, Tryd.ntmps37
   go_wp2
   go_ret2
   exact ⟨rfl, rfl⟩
 · have e1 : (c == (m : Int) - 1) = false := by rw [beq_eq_false_iff_ne]; omega
   have b1 : -1 ≤ (m : Int) - 1 := by omega
   have b2 : (m : Int) - 1 ≤ 1000000 := by omega
   clear hc
   go_enter Tryd.func37, Tryd.ntmps37
   go_wp2
   go_ret2
   exact ⟨rfl, rfl⟩
set_option maxHeartbeats 4000000 in
set_option maxRecDepth 100000 in
theorem tEnd_yes {o : List Nat} {c : Int} {m : Nat} (hm : m ≤ o.length) (hl : o.length ≤ 1000000) {g : Nat} {T : TypeId} {k cap : Nat} {w : World} (hr : NuR w g T o k) {s : Nat} (hE : endN o c m = some s) :
 Calls Tryd.prog 37 #[.int .i64 c, .int .i64 (m : Int), .slice (some ⟨g, 0, none⟩) o.length cap] w fun e w' => e = .returned (.tuple #[.int .i64 (s : Int), .bool true]) ∧ w = w' := by
 obtain ⟨j, rfl, rfl, rfl⟩ := endN_some hE
 have hj : j < o.length := by omega
 have hcell := hr.cell hj
 obtain ⟨s, hs⟩ : ∃ s, o.getD j 0 = s := ⟨_, rfl⟩
 rw [hs] at hcell ⊢
 clear hE hs
 have e1 : ((j : Int) == (j : Int)) = true := beq_self_eq_true _
 generalize o.length = n at *
 clear hr
 go_enter Tryd.func37, Tryd.ntmps37
 go_wp2
 go_ret2
 exact ⟨rfl, rfl⟩
set_option maxHeartbeats 4000000 in
set_option maxRecDepth 100000 in
theorem tStart_no {o : List Nat} (hlow : Low o) (hl : o.length ≤ 1000000) {k a b n : Int} {t u : ByteArray} {p : Int} {g : Nat} {T : TypeId} {r cap : Nat} {w : World} (hr : NuR w g T o r) (hE : startN o ⟨k, a, b, n, t, u, p⟩ = none) :
 Calls Tryd.prog 29 #[.agg (ndC k a b n t u p), .slice (some ⟨g, 0, none⟩) o.length cap] w fun e w' => e = .returned (.tuple #[.int .i64 0, .bool false]) ∧ Below w.heap.size w w' := by
 have bw := below_new w (.cells (ndC k a b n t u p) 37)
 have HR := Lib.hid (hr.below bw)
 have hx := rowA_new w 37 (ndC k a b n t u p)
 have HB := Lib.hid bw
 unfold startN at hE
 dsimp only at hE
 clear bw
 have ka := hx.cell (k := 0) (v := .int .i64 k) rfl
 have kb := hx.cell (k := 1) (v := .int .i64 a) rfl
 have kc := hx.cell (k := 2) (v := .int .i64 b) rfl
 clear hx
 by_cases h1 : k = 1
 · subst h1
   rw [if_pos (by decide)] at hE
   cases hE
 · have e1 : (k == 1) = false := by rw [beq_eq_false_iff_ne]; exact h1
   by_cases h2 : k = 2
   · subst h2
     rw [if_pos (by decide)] at hE
     cases hE
   · have e2 : (k == 2) = false := by rw [beq_eq_false_iff_ne]; exact h2
     rw [if_neg (by omega)] at hE
     by_cases h7 : k = 7
     · subst h7
       rw [if_pos (by decide)] at hE
       have HEa := Lib.hid hE
       clear hE hr
       go_enter Tryd.func29, Tryd.ntmps29
       go_wp2_with fail
       refine (tEnd_no (Nat.le_refl _) hl HR.out HEa.out).mono ?_
       rintro e wx ⟨rfl, rfl⟩
       go_wp2
       go_ret2
       exact ⟨rfl, HB.out⟩
     · have e7 : (k == 7) = false := by rw [beq_eq_false_iff_ne]; exact h7
       by_cases h8 : k = 8
       · subst h8
         rw [if_pos (by decide)] at hE
         have HEa := Lib.hid hE
         clear hE hr
         go_enter Tryd.func29, Tryd.ntmps29
         go_wp2_with fail
         refine (tEnd_no (Nat.le_refl _) hl HR.out HEa.out).mono ?_
         rintro e wx ⟨rfl, rfl⟩
         go_wp2
         go_ret2
         exact ⟨rfl, HB.out⟩
       · have e8 : (k == 8) = false := by rw [beq_eq_false_iff_ne]; exact h8
         rw [if_neg (by omega)] at hE
         cases hB : endN o b o.length with
         | none =>
          have HEb := Lib.hid hB
          clear hE hB hr
          go_enter Tryd.func29, Tryd.ntmps29
          go_wp2_with fail
          refine (tEnd_no (Nat.le_refl _) hl HR.out HEb.out).mono ?_
          rintro e wx ⟨rfl, rfl⟩
          go_wp2
          go_ret2
          exact ⟨rfl, HB.out⟩
         | some s2 =>
          rw [hB] at hE
          dsimp only at hE
          have HEb := Lib.hid hB
          have HEa := Lib.hid hE
          have hs2 : s2 ≤ o.length := by obtain ⟨j, _, h1, rfl⟩ := endN_some hB; have := hlow.le j; omega
          clear hE hB hr
          go_enter Tryd.func29, Tryd.ntmps29
          go_wp2_with fail
          refine (tEnd_yes (Nat.le_refl _) hl HR.out HEb.out).mono ?_
          rintro e wx ⟨rfl, rfl⟩
          go_wp2_with fail
          refine (tEnd_no hs2 hl HR.out HEa.out).mono ?_
          rintro e wx ⟨rfl, rfl⟩
          go_wp2
          go_ret2
          exact ⟨rfl, HB.out⟩
set_option maxHeartbeats 4000000 in
set_option maxRecDepth 100000 in
theorem tStart_yes {o : List Nat} (hlow : Low o) (hl : o.length ≤ 1000000) {k a b n : Int} {t u : ByteArray} {p : Int} {g : Nat} {T : TypeId} {r cap : Nat} {w : World} (hr : NuR w g T o r) {s : Nat} (hE : startN o ⟨k, a, b, n, t, u, p⟩ = some s) :
 Calls Tryd.prog 29 #[.agg (ndC k a b n t u p), .slice (some ⟨g, 0, none⟩) o.length cap] w fun e w' => e = .returned (.tuple #[.int .i64 (s : Int), .bool true]) ∧ Below w.heap.size w w' := by
 have bw := below_new w (.cells (ndC k a b n t u p) 37)
 have HR := Lib.hid (hr.below bw)
 have hx := rowA_new w 37 (ndC k a b n t u p)
 have HB := Lib.hid bw
 unfold startN at hE
 dsimp only at hE
 clear bw
 have ka := hx.cell (k := 0) (v := .int .i64 k) rfl
 have kb := hx.cell (k := 1) (v := .int .i64 a) rfl
 have kc := hx.cell (k := 2) (v := .int .i64 b) rfl
 clear hx
 by_cases h1 : k = 1
 · subst h1
   rw [if_pos (by decide)] at hE
   injection hE with hE
   subst hE
   clear hr
   go_enter Tryd.func29, Tryd.ntmps29
   go_wp2
   go_ret2
   exact ⟨rfl, HB.out⟩
 · have e1 : (k == 1) = false := by rw [beq_eq_false_iff_ne]; exact h1
   by_cases h2 : k = 2
   · subst h2
     rw [if_pos (by decide)] at hE
     injection hE with hE
     subst hE
     clear hr
     go_enter Tryd.func29, Tryd.ntmps29
     go_wp2
     go_ret2
     exact ⟨rfl, HB.out⟩
   · have e2 : (k == 2) = false := by rw [beq_eq_false_iff_ne]; exact h2
     rw [if_neg (by omega)] at hE
     by_cases h7 : k = 7
     · subst h7
       rw [if_pos (by decide)] at hE
       have HEa := Lib.hid hE
       clear hE hr
       go_enter Tryd.func29, Tryd.ntmps29
       go_wp2_with fail
       refine (tEnd_yes (Nat.le_refl _) hl HR.out HEa.out).mono ?_
       rintro e wx ⟨rfl, rfl⟩
       go_wp2
       go_ret2
       exact ⟨rfl, HB.out⟩
     · have e7 : (k == 7) = false := by rw [beq_eq_false_iff_ne]; exact h7
       by_cases h8 : k = 8
       · subst h8
         rw [if_pos (by decide)] at hE
         have HEa := Lib.hid hE
         clear hE hr
         go_enter Tryd.func29, Tryd.ntmps29
         go_wp2_with fail
         refine (tEnd_yes (Nat.le_refl _) hl HR.out HEa.out).mono ?_
         rintro e wx ⟨rfl, rfl⟩
         go_wp2
         go_ret2
         exact ⟨rfl, HB.out⟩
       · have e8 : (k == 8) = false := by rw [beq_eq_false_iff_ne]; exact h8
         rw [if_neg (by omega)] at hE
         cases hB : endN o b o.length with
         | none => rw [hB] at hE; cases hE
         | some s2 =>
          rw [hB] at hE
          dsimp only at hE
          have HEb := Lib.hid hB
          have HEa := Lib.hid hE
          have hs2 : s2 ≤ o.length := by obtain ⟨j, _, h1, rfl⟩ := endN_some hB; have := hlow.le j; omega
          clear hE hB hr
          go_enter Tryd.func29, Tryd.ntmps29
          go_wp2_with fail
          refine (tEnd_yes (Nat.le_refl _) hl HR.out HEb.out).mono ?_
          rintro e wx ⟨rfl, rfl⟩
          go_wp2_with fail
          refine (tEnd_yes hs2 hl HR.out HEa.out).mono ?_
          rintro e wx ⟨rfl, rfl⟩
          go_wp2
          go_ret2
          exact ⟨rfl, HB.out⟩
set_option maxHeartbeats 4000000 in
set_option maxRecDepth 100000 in
theorem tAlike_c {k a b n : Int} {t u : ByteArray} {p k' a' b' n' : Int} {t' u' : ByteArray} {p' : Int} {v : Bool} (hv : sameN ⟨k, a, b, n, t, u, p⟩ ⟨k', a', b', n', t', u', p'⟩ = v) (w : World) :
 Calls Tryd.prog 32 #[.agg (ndC k a b n t u p), .agg (ndC k' a' b' n' t' u' p')] w fun e w' => e = .returned (.bool v) ∧ Below w.heap.size w w' := by
 have hq : ∀ W, (Op.equalIn 10000 37 (.agg (ndC k a b n t u p')) (.agg (ndC k' a' b' n' t' u' p'))).run Tryd.prog W = .ok v W := fun W => equal_nd (x := ⟨k, a, b, n, t, u, p'⟩) (y := ⟨k', a', b', n', t', u', p'⟩) (by unfold eqN; rw [decide_eq_true rfl, Bool.and_true]; exact hv) W
 have b1 := below_new w (.cells (ndC k a b n t u p) 37)
 have b2 := below_new (w.alloc (.cells (ndC k a b n t u p) 37)) (.cells (ndC k' a' b' n' t' u' p') 37)
 have h_ra := (rowA_new w 37 (ndC k a b n t u p)).below b2
 have h_rb := rowA_new (w.alloc (.cells (ndC k a b n t u p) 37)) 37 (ndC k' a' b' n' t' u' p')
 simp only [World.size_alloc] at h_rb
 have k6 := h_rb.cell (k := 6) (v := .int .i64 p') rfl
 have c6 := h_ra.cell (k := 6) (v := .int .i64 p) rfl
 have f6 := h_ra.free 6
 have HI_a : Hid (InV (((w.alloc (.cells (ndC k a b n t u p) 37)).alloc (.cells (ndC k' a' b' n' t' u' p') 37)).setCell ⟨w.heap.size, 6, none⟩ (.int .i64 p')) w.heap.size 0 (ndC k a b n t u p')) := (h_ra.set 6 (.int .i64 p')).inV
 have HI_b : Hid (InV (((w.alloc (.cells (ndC k a b n t u p) 37)).alloc (.cells (ndC k' a' b' n' t' u' p') 37)).setCell ⟨w.heap.size, 6, none⟩ (.int .i64 p')) (w.heap.size + 1) 0 (ndC k' a' b' n' t' u' p')) := (h_rb.far (by omega) 6 (.int .i64 p')).inV
 have HM_a := Lib.hid (manyNd k a b n t u p')
 have HM_b := Lib.hid (manyNd k' a' b' n' t' u' p')
 clear b1 b2 h_ra h_rb hv
 go_enter Tryd.func32, Tryd.ntmps32
 go_wp2_with (refine wpList_loadV (by rfl) _ _ (by rfl) _ _ (by rfl) _ (by assumption) (by assumption) ?_)
 go_ret
 exact ⟨rfl, below_two (below_new _ _) (below_new _ _)⟩
end Go.Proofs.YtbddhflmknaadaaDoor

/- What package lex's Tokens answers, as a contract over memory. Conditions: a text of at most 10^9 bytes; the tables of kinds read as they are laid. -/
namespace Go.Proofs.YtbddhflmknaadaaDoor
open Go.RowKit Limb
set_option linter.unusedVariables false
theorem appL_nil (r : LR) : appL [] r = r := by cases r <;> rfl
theorem appL_cons (us : List Tk) (t : Tk) (r : LR) : appL us (consL t r) = appL (us ++ [t]) r := by
 cases r with
 | bad p => rfl
 | ok l => show LR.ok _ = LR.ok _; simp
def LexI (l : List Nat) (us : List Tk) (p : Nat) : Prop := p ≤ l.length ∧ us.length ≤ p ∧ Stop l p ∧ lexT l = appL us (lexR (l.length + 1) p (l.drop p))
theorem LexI.start {l : List Nat} {n : Nat} (h : Gap l n) (hs : Stop l n) : LexI l [] n := by
 refine ⟨h.1, Nat.zero_le _, hs, ?_⟩
 rw [appL_nil]
 have := h.2 (l.length + 1) (l.length + 1) 0 (by omega) (by omega)
 rw [Nat.zero_add] at this
 exact this
theorem LexI.done {l : List Nat} {us : List Tk} {p : Nat} (h : LexI l us p) (hp : l.length ≤ p) : lexT l = .ok us := by
 rw [h.2.2.2, List.drop_eq_nil_of_le hp]
 show LR.ok (us ++ []) = _
 rw [List.append_nil]
theorem LexI.bad {l : List Nat} {us : List Tk} {p c : Nat} {r : List Nat} (h : LexI l us p) (hd : l.drop p = c :: r) (hb : lexS c r = .bad) : lexT l = .bad p := by
 rw [h.2.2.2, hd]
 unfold lexR
 rw [hb]
 rfl
theorem LexI.step {l : List Nat} {us : List Tk} {p c k n m : Nat} {r t : List Nat} (h : LexI l us p) (hd : l.drop p = c :: r) (ht : lexS c r = .tok k t n) (hg : Gap (l.drop (p + n)) m) (hst : Stop (l.drop (p + n)) m) : LexI l (us ++ [(k, t, p)]) (p + n + m) := by
 have hl := lexS_len.2 k t n ht
 have hlen : l.length - p = r.length + 1 := by rw [← List.length_drop, hd, List.length_cons]
 have hg1 := hg.1
 rw [List.length_drop] at hg1
 refine ⟨by omega, ?_, ?_, ?_⟩
 · rw [List.length_append, List.length_singleton]; have := h.2.1; omega
 · intro c2 r2 e
   exact hst c2 r2 (by rw [List.drop_drop]; exact e)
 · rw [h.2.2.2, hd]
   have e1 : lexR (l.length + 1) p (c :: r) = consL (k, t, p) (lexR l.length (p + n) ((c :: r).drop n)) := by
    conv => lhs; unfold lexR
    rw [ht]
   rw [e1, appL_cons, ← hd, List.drop_drop, hg.2 l.length (l.length + 1) (p + n) (by rw [List.length_drop]; omega) (by rw [List.length_drop]; omega), List.drop_drop]
end Go.Proofs.YtbddhflmknaadaaDoor

/- A token that is put behind a row of tokens in a box; reading byte by byte. No condition. -/
namespace Go.Proofs.YtbddhflmknaadaaDoor
open Go.RowKit Limb
set_option linter.unusedVariables false
def LexJ (l : List Nat) (us : List Tk) (p : Nat) : Prop := p ≤ l.length ∧ us.length ≤ p ∧ lexT l = appL us (lexR (l.length + 1) p (l.drop p))
theorem LexJ.start (l : List Nat) : LexJ l [] 0 := ⟨Nat.zero_le _, Nat.le_refl _, by rw [appL_nil]; rfl⟩
theorem LexJ.done {l : List Nat} {us : List Tk} {p : Nat} (h : LexJ l us p) (hp : l.length ≤ p) : lexT l = .ok us := by
 rw [h.2.2, List.drop_eq_nil_of_le hp]
 show LR.ok (us ++ []) = _
 rw [List.append_nil]
theorem LexJ.bad {l : List Nat} {us : List Tk} {p c : Nat} {r : List Nat} (h : LexJ l us p) (hd : l.drop p = c :: r) (hb : lexS c r = .bad) : lexT l = .bad p := by
 rw [h.2.2, hd]
 unfold lexR
 rw [hb]
 rfl
theorem LexJ.skip {l : List Nat} {us : List Tk} {p c n : Nat} {r : List Nat} (h : LexJ l us p) (hd : l.drop p = c :: r) (hs : lexS c r = .skip n) : LexJ l us (p + n) := by
 have hl := lexS_len.1 n hs
 have hlen : l.length - p = r.length + 1 := by rw [← List.length_drop, hd, List.length_cons]
 refine ⟨by omega, by have := h.2.1; omega, ?_⟩
 have e1 : lexR (l.length + 1) p (c :: r) = lexR l.length (p + n) ((c :: r).drop n) := by
  conv => lhs; unfold lexR
  rw [hs]
 rw [h.2.2, hd, e1, ← hd, List.drop_drop]
 congr 1
 exact lexR_fuel _ _ _ _ (by rw [List.length_drop]; omega) (by rw [List.length_drop]; omega)
theorem LexJ.tok {l : List Nat} {us : List Tk} {p c k n : Nat} {r t : List Nat} (h : LexJ l us p) (hd : l.drop p = c :: r) (hs : lexS c r = .tok k t n) : LexJ l (us ++ [(k, t, p)]) (p + n) := by
 have hl := lexS_len.2 k t n hs
 have hlen : l.length - p = r.length + 1 := by rw [← List.length_drop, hd, List.length_cons]
 refine ⟨by omega, by rw [List.length_append, List.length_singleton]; have := h.2.1; omega, ?_⟩
 have e1 : lexR (l.length + 1) p (c :: r) = consL (k, t, p) (lexR l.length (p + n) ((c :: r).drop n)) := by
  conv => lhs; unfold lexR
  rw [hs]
 rw [h.2.2, hd, e1, appL_cons, ← hd, List.drop_drop]
 congr 1
 exact lexR_fuel _ _ _ _ (by rw [List.length_drop]; omega) (by rw [List.length_drop]; omega)
/-! ### a token put behind a row in a box -/
def ApR (k : Nat) (A : Option Addr) (n c : Nat) (i : Nat) (wx wy : World) : Prop := if i = k then wx.grownBy wy (Value.ownBlock (.slice A n c)) else Below wx.heap.size wx wy
theorem ApR.of {k : Nat} {A : Option Addr} {n c i : Nat} {wx wy : World} (h : Below wx.heap.size wx wy) (hi : i ≠ k) : ApR k A n c i wx wy := by unfold ApR; rw [if_neg hi]; exact h
theorem ApR.row {k : Nat} {A : Option Addr} {n c i : Nat} {wx wy : World} (h : ApR k A n c i wx wy) {g : Nat} {T : TypeId} {V : Array Value} (r : RowA wx g T V) (hg : Value.ownBlock (.slice A n c) ≠ some g) : RowA wy g T V := by
 unfold ApR at h
 split at h
 · exact r.grown h hg
 · exact r.below h
end Go.Proofs.YtbddhflmknaadaaDoor

/- What the reference of layer 13 answers (letter, digit), as contracts over memory. No condition. -/
namespace Go.Proofs.YtbddhflmknaadaaDoor
open Go.RowKit Limb
set_option linter.unusedVariables false
set_option maxHeartbeats 4000000 in
set_option maxRecDepth 100000 in
theorem rxLetter_c (c : Nat) (v : Bool) (hv : isLt c = v) (w : World) :
 Calls Tryd.prog 44 #[.int .u8 (c : Int)] w fun e w' => e = .returned (.bool v) ∧ w = w' := by
 go_enter Tryd.func44, Tryd.ntmps44
 go_wp2
 all_goals go_ret
 all_goals refine ⟨ret_bool ?_, rfl⟩
 all_goals subst hv
 all_goals unfold isLt
 all_goals grind
set_option maxHeartbeats 4000000 in
set_option maxRecDepth 100000 in
theorem rxDigit_c (c : Nat) (v : Bool) (hv : isDig c = v) (w : World) :
 Calls Tryd.prog 45 #[.int .u8 (c : Int)] w fun e w' => e = .returned (.bool v) ∧ w = w' := by
 go_enter Tryd.func45, Tryd.ntmps45
 go_wp2
 all_goals go_ret
 all_goals refine ⟨ret_bool ?_, rfl⟩
 all_goals subst hv
 all_goals unfold isDig
 all_goals grind
end Go.Proofs.YtbddhflmknaadaaDoor

/- What the reference of layer 13 answers (IsName), and keep.Tokens, as contracts over memory. Conditions: texts that can be read; rows of tokens. -/
namespace Go.Proofs.YtbddhflmknaadaaDoor
open Go.RowKit Limb
set_option linter.unusedVariables false
theorem isWdB_of {l : List Nat} (h : l ≠ []) (hw : wordN l = l.length) : isWdB l = decide (l.length ≤ 16) := by
 rw [← wordL_is l h]
 have hp := List.length_pos_iff.2 h
 unfold wordL
 rw [hw]
 by_cases h16 : 16 < l.length
 · rw [if_pos h16, decide_eq_false (by omega), decide_eq_false (by omega)]
 · rw [if_neg h16, decide_eq_true rfl, decide_eq_true (by omega)]
theorem isWdB_no {l : List Nat} {k : Nat} (hw : wordN l = k) (hk : k < l.length) : isWdB l = false := by
 have h : l ≠ [] := by rintro rfl; simp at hk
 rw [← wordL_is l h]
 unfold wordL
 rw [hw]
 split
 · exact decide_eq_false (by omega)
 · exact decide_eq_false (by omega)
set_option maxHeartbeats 2000000 in
set_option maxRecDepth 100000 in
theorem rxIsName_c (s : ByteArray) (hs : s.size ≤ 9223372036854775807) (w : World) (v : Bool) (hv : isNam (bytesOf s) = v) :
 Calls Tryd.prog 36 #[.string s] w fun e w' => e = .returned (.bool v) ∧ w = w' := by
 have HL := Lib.hid (length_bytesOf s)
 have Hv := Lib.hid hv
 clear hv
 go_enter Tryd.func36, Tryd.ntmps36
 go_wp2
 go_loopw [3] (fun i wr => ∃ k : Nat, i = .int .i64 (k : Int) ∧ k ≤ s.size ∧ Hid (k ≤ wordN (bytesOf s)) ∧ w = wr) (fun i _ => s.size - (intOf i).toNat)
 case atStart => exact ⟨0, rfl, Nat.zero_le _, Nat.zero_le _, rfl⟩
 case round =>
  obtain ⟨k, rfl, hk, HK, rfl⟩ := hrel
  by_cases hlt : k < s.size
  · obtain ⟨d, hd⟩ : ∃ d, (s[k]'hlt).toNat = d := ⟨_, rfl⟩
    have HD : Hid (lim (bytesOf s) k = d) := by show _ = _; rw [← Limb.byte_at s k hlt, hd]
    by_cases hl : isLt d = true
    · have HLt := Lib.hid hl
      have HK2 : Hid (k + 1 ≤ wordN (bytesOf s)) := word_step HK.out (by rw [HL.out]; exact hlt) (by unfold wdAt; rw [HD.out, HLt.out]; rfl)
      clear hl HK HD
      as_aux_lemma =>
       go_wp2_with (go_at_call 44; (with_reducible refine (rxLetter_c d _ HLt.out _).mono ?_); rintro e w2 ⟨rfl, rfl⟩)
       go_roundw
       case rel => exact ⟨k + 1, by go_num, by omega, HK2, by first | rfl | trivial⟩
       case measure => simp [intOf]; omega
    · have HLt : Hid (isLt d = false) := by show _ = _; simpa using hl
      clear hl
      by_cases k0 : k = 0
      · subst k0
        have HE : Hid (wordN (bytesOf s) = 0) := word_stop (Nat.zero_le _) (fun _ => by unfold wdAt; rw [HD.out, HLt.out]; rfl)
        have HVf : Hid (v = false) := by show _ = _; rw [← Hv.out]; unfold isNam; rw [isWdB_no HE.out (by rw [HL.out]; exact hlt)]; rfl
        clear HE
        as_aux_lemma =>
         go_wp2_with (go_at_call 44; (with_reducible refine (rxLetter_c d _ HLt.out _).mono ?_); rintro e w2 ⟨rfl, rfl⟩)
         go_ret
         exact ⟨by rw [HVf.out]; rfl, rfl⟩
      · have k1 : 0 < k := by omega
        have ek : ((k : Int) == 0) = false := by rw [beq_eq_false_iff_ne]; omega
        by_cases hg : isDig d = true
        · have HG := Lib.hid hg
          have HK2 : Hid (k + 1 ≤ wordN (bytesOf s)) := word_step HK.out (by rw [HL.out]; exact hlt) (by unfold wdAt; rw [HD.out, HLt.out, HG.out, decide_eq_true k1]; rfl)
          clear hg HK HD
          as_aux_lemma =>
           go_wp2_with (first | (go_at_call 44; (with_reducible refine (rxLetter_c d _ HLt.out _).mono ?_); rintro e w2 ⟨rfl, rfl⟩) | (go_at_call 45; (with_reducible refine (rxDigit_c d _ HG.out _).mono ?_); rintro e w2 ⟨rfl, rfl⟩))
           go_roundw
           case rel => exact ⟨k + 1, by go_num, by omega, HK2, by first | rfl | trivial⟩
           case measure => simp [intOf]; omega
        · have HG : Hid (isDig d = false) := by show _ = _; simpa using hg
          have HE : Hid (wordN (bytesOf s) = k) := word_stop HK.out (fun _ => by unfold wdAt; rw [HD.out, HLt.out, HG.out, Bool.and_false]; rfl)
          clear hg HK HD
          have HVf : Hid (v = false) := by show _ = _; rw [← Hv.out]; unfold isNam; rw [isWdB_no HE.out (by rw [HL.out]; exact hlt)]; rfl
          clear HE
          as_aux_lemma =>
           go_wp2_with (first | (go_at_call 44; (with_reducible refine (rxLetter_c d _ HLt.out _).mono ?_); rintro e w2 ⟨rfl, rfl⟩) | (go_at_call 45; (with_reducible refine (rxDigit_c d _ HG.out _).mono ?_); rintro e w2 ⟨rfl, rfl⟩))
           go_ret
           exact ⟨by rw [HVf.out]; rfl, rfl⟩
  · obtain rfl : k = s.size := by omega
    have HE : Hid (wordN (bytesOf s) = (bytesOf s).length) := by show _ = _; exact Nat.le_antisymm (wordN_le _) (by rw [HL.out]; exact HK.out)
    clear HK hlt hk
    by_cases h1 : 1 ≤ s.size
    · have hne : bytesOf s ≠ [] := by intro e; have := HL.out; rw [e] at this; simp at this; omega
      have HW := Lib.hid (isWdB_of hne HE.out)
      clear hne HE
      by_cases h16 : s.size ≤ 16
      · have HWt : Hid (isWdB (bytesOf s) = true) := by show _ = _; rw [HW.out, HL.out]; exact decide_eq_true h16
        clear HW
        by_cases g1 : bytesOf s = [117, 110, 105, 116]
        · have f1 : (s.toList == ([117, 110, 105, 116] : List UInt8)) = true := (own_eq s [117, 110, 105, 116] (by decide)).trans (decide_eq_true g1)
          have HVf : Hid (v = false) := by show _ = _; rw [← Hv.out]; unfold isNam; rw [HWt.out, g1]; decide
          clear g1
          as_aux_lemma =>
           go_wp2
           go_ret
           exact ⟨by rw [HVf.out]; rfl, rfl⟩
        · have f1 : (s.toList == ([117, 110, 105, 116] : List UInt8)) = false := (own_eq s [117, 110, 105, 116] (by decide)).trans (decide_eq_false g1)
          by_cases g2 : bytesOf s = [115, 111, 117, 114, 99, 101]
          · have f2 : (s.toList == ([115, 111, 117, 114, 99, 101] : List UInt8)) = true := (own_eq s [115, 111, 117, 114, 99, 101] (by decide)).trans (decide_eq_true g2)
            have HVf : Hid (v = false) := by show _ = _; rw [← Hv.out]; unfold isNam; rw [HWt.out, g2]; decide
            clear g2
            as_aux_lemma =>
             go_wp2
             go_ret
             exact ⟨by rw [HVf.out]; rfl, rfl⟩
          · have f2 : (s.toList == ([115, 111, 117, 114, 99, 101] : List UInt8)) = false := (own_eq s [115, 111, 117, 114, 99, 101] (by decide)).trans (decide_eq_false g2)
            by_cases g3 : bytesOf s = [99, 111, 118]
            · have f3 : (s.toList == ([99, 111, 118] : List UInt8)) = true := (own_eq s [99, 111, 118] (by decide)).trans (decide_eq_true g3)
              have HVf : Hid (v = false) := by show _ = _; rw [← Hv.out]; unfold isNam; rw [HWt.out, g3]; decide
              clear g3
              as_aux_lemma =>
               go_wp2
               go_ret
               exact ⟨by rw [HVf.out]; rfl, rfl⟩
            · have f3 : (s.toList == ([99, 111, 118] : List UInt8)) = false := (own_eq s [99, 111, 118] (by decide)).trans (decide_eq_false g3)
              by_cases g4 : bytesOf s = [108, 101, 116]
              · have f4 : (s.toList == ([108, 101, 116] : List UInt8)) = true := (own_eq s [108, 101, 116] (by decide)).trans (decide_eq_true g4)
                have HVf : Hid (v = false) := by show _ = _; rw [← Hv.out]; unfold isNam; rw [HWt.out, g4]; decide
                clear g4
                as_aux_lemma =>
                 go_wp2
                 go_ret
                 exact ⟨by rw [HVf.out]; rfl, rfl⟩
              · have f4 : (s.toList == ([108, 101, 116] : List UInt8)) = false := (own_eq s [108, 101, 116] (by decide)).trans (decide_eq_false g4)
                by_cases g5 : bytesOf s = [111, 117, 116, 112, 117, 116]
                · have f5 : (s.toList == ([111, 117, 116, 112, 117, 116] : List UInt8)) = true := (own_eq s [111, 117, 116, 112, 117, 116] (by decide)).trans (decide_eq_true g5)
                  have HVf : Hid (v = false) := by show _ = _; rw [← Hv.out]; unfold isNam; rw [HWt.out, g5]; decide
                  clear g5
                  as_aux_lemma =>
                   go_wp2
                   go_ret
                   exact ⟨by rw [HVf.out]; rfl, rfl⟩
                · have f5 : (s.toList == ([111, 117, 116, 112, 117, 116] : List UInt8)) = false := (own_eq s [111, 117, 116, 112, 117, 116] (by decide)).trans (decide_eq_false g5)
                  by_cases g6 : bytesOf s = [105, 110]
                  · have f6 : (s.toList == ([105, 110] : List UInt8)) = true := (own_eq s [105, 110] (by decide)).trans (decide_eq_true g6)
                    have HVf : Hid (v = false) := by show _ = _; rw [← Hv.out]; unfold isNam; rw [HWt.out, g6]; decide
                    clear g6
                    as_aux_lemma =>
                     go_wp2
                     go_ret
                     exact ⟨by rw [HVf.out]; rfl, rfl⟩
                  · have f6 : (s.toList == ([105, 110] : List UInt8)) = false := (own_eq s [105, 110] (by decide)).trans (decide_eq_false g6)
                    have HVt : Hid (v = true) := by
                     show _ = _
                     rw [← Hv.out]
                     unfold isNam ownW
                     rw [HWt.out]
                     simp only [List.contains_cons, List.contains_nil, Bool.or_false, Bool.true_and, Bool.not_eq_true', Bool.or_eq_false_iff, beq_eq_false_iff_ne]
                     exact ⟨g1, g2, g3, g4, g5, g6⟩
                    clear g1 g2 g3 g4 g5 g6
                    as_aux_lemma =>
                     go_wp2
                     go_ret
                     exact ⟨by rw [HVt.out]; rfl, rfl⟩
      · have HVf : Hid (v = false) := by show _ = _; rw [← Hv.out]; unfold isNam; rw [HW.out, HL.out, decide_eq_false h16]; rfl
        clear HW
        have h17 : ¬ ((s.size : Int) ≤ 16) := by omega
        go_wp2
        go_ret
        exact ⟨by rw [HVf.out]; rfl, rfl⟩
    · have h0 : s.size = 0 := by omega
      have hnil : bytesOf s = [] := List.eq_nil_of_length_eq_zero (by rw [HL.out]; exact h0)
      have HVf : Hid (v = false) := by show _ = _; rw [← Hv.out, hnil]; rfl
      clear hnil HE
      have h17 : ¬ ((1 : Int) ≤ (s.size : Int)) := by omega
      go_wp2
      go_ret
      exact ⟨by rw [HVf.out]; rfl, rfl⟩
section
variable {w : World} {A A2 : Option Addr} {n c1 n2 c2 : Nat} {ts : List Tk}
end
end Go.Proofs.YtbddhflmknaadaaDoor

/- What strings.IndexAny and strings.ContainsAny answer of a text and the two bytes 93, 10, as contracts over memory; package tree's inBrackets. Condition: texts of at most 10^9 bytes, of any bytes. -/
namespace Go.Proofs.YtbddhflmknaadaaDoor
open Go.RowKit Limb
set_option linter.unusedVariables false
abbrev brk : ByteArray := ⟨#[93, 10]⟩
def okB (c : Nat) : Bool := !(c == 93 || c == 10)
theorem dec_high (s : ByteArray) (i : Nat) (hi : i < s.size) (hx : 128 ≤ (s.get! i).toNat) : 128 ≤ (Utf8.decode s i).1 ∧ ∀ j, j < (Utf8.decode s i).2 → i + j < s.size ∧ 128 ≤ (s.get! (i + j)).toNat := by
 rw [Lib.decode_at]
 generalize hb0 : (s.get! i).toNat = b0 at hx
 generalize hb1 : (s.get! (i + 1)).toNat = b1
 generalize hb2 : (s.get! (i + 2)).toNat = b2
 generalize hb3 : (s.get! (i + 3)).toNat = b3
 have key : ∀ K, K ≤ 4 → (1 < K → i + 1 < s.size ∧ 128 ≤ b1) → (2 < K → i + 2 < s.size ∧ 128 ≤ b2) → (3 < K → i + 3 < s.size ∧ 128 ≤ b3) → ∀ j, j < K → i + j < s.size ∧ 128 ≤ (s.get! (i + j)).toNat := by
  intro K hK h1 h2 h3 j hj
  match j, hj with
  | 0, _ => exact ⟨hi, by rw [Nat.add_zero, hb0]; exact hx⟩
  | 1, hj => have := h1 (by omega); exact ⟨this.1, by rw [hb1]; exact this.2⟩
  | 2, hj => have := h2 (by omega); exact ⟨this.1, by rw [hb2]; exact this.2⟩
  | 3, hj => have := h3 (by omega); exact ⟨this.1, by rw [hb3]; exact this.2⟩
  | j + 4, hj => omega
 unfold Lib.decodeN
 rw [if_neg (by omega)]
 repeat' split
 all_goals (refine ⟨by dsimp only; omega, ?_⟩; dsimp only; refine key _ (by omega) (fun h => ?_) (fun h => ?_) (fun h => ?_) <;> first | (exfalso; omega) | omega)
theorem sValid_c (R : Nat) (hR : R ≤ 1114111) (v : Bool) (hv : (decide (R < 55296) || decide (57343 < R)) = v) (w : World) :
 Calls Tryd.prog 63 #[.int .i32 (R : Int)] w fun e w' => e = .returned (.bool v) ∧ w = w' := by
 refine (Any.utf8_ValidRune { Tryd.lays153 with } (R : Int) w).mono ?_
 rintro e w' ⟨rfl, rfl⟩
 refine ⟨?_, rfl⟩
 rw [← hv]
 refine congrArg _ (congrArg _ ?_)
 unfold Lib.validRune
 by_cases h1 : R < 55296
 · simp [h1]; omega
 · by_cases h2 : 57343 < R
   · simp [h1, h2]; omega
   · simp [h1, h2]; omega
theorem enc2 {R : Nat} (h1 : 128 ≤ R) (h2 : R < 2048) : Utf8.encode (R : Int) = ⟨#[UInt8.ofNat (192 + R / 64), UInt8.ofNat (128 + R % 64)]⟩ := by
 unfold Utf8.encode
 have hv : Utf8.valid (R : Int) = true := by unfold Utf8.valid; simp; omega
 rw [if_pos hv, Int.toNat_natCast]
 dsimp only
 rw [if_neg (by omega), if_pos (by omega)]
theorem enc_size {R : Nat} (h1 : 2048 ≤ R) (hv : Utf8.valid (R : Int) = true) : 3 ≤ (Utf8.encode (R : Int)).size := by
 unfold Utf8.encode
 rw [if_pos hv, Int.toNat_natCast]
 dsimp only
 rw [if_neg (by omega), if_neg (by omega)]
 split
 · exact Nat.le_refl 3
 · show 3 ≤ 4; decide
theorem enc_le (R : Int) : (Utf8.encode R).size ≤ 4 := by
 unfold Utf8.encode
 generalize (if Utf8.valid R = true then R.toNat else Utf8.runeError) = c
 dsimp only
 split
 · show 1 ≤ 4; decide
 · split
   · show 2 ≤ 4; decide
   · split
     · show 3 ≤ 4; decide
     · show 4 ≤ 4; decide
theorem conv_rune {R : Int} {E : ByteArray} (h : Utf8.encode R = E) (W : World) : (Go.convert 21 9 (.int .i32 R)).run Tryd.prog W = .ok (.string E) W := by
 subst h
 kernel_rfl
theorem wpList_conv {P : Program} {ops : Array Oper} {rest : List Oper} {o : Oper} {a : Act} {w : World} {Q : Exit → Act → World → Prop} (hg : Region.wanted o (yielded ops a.tmps) = true) (s d : TypeId) (x : Operand) (ho : o.op = .convert s d x) (v r : Value) (hx : a.eval x = v) (hr : Hid (∀ W, (convert s d v).run P W = .ok r W))
 (h : wpList P ops Q rest (a.put o.dst r) w) : wpList P ops Q (o :: rest) a w :=
 BigFrame.wpList_want hg fun _ hK => by
  unfold Oper.wp execOp
  simp only [ho, hx, hr.out, Sem.run_bind, Sem.run_pure, Result.andThen_ok]
  exact hK _ _ h
set_option maxHeartbeats 4000000 in
set_option maxRecDepth 100000 in
theorem sRune_c (R : Nat) (h0 : 128 ≤ R) (hR : R ≤ 1114111) (w : World) :
 Calls Tryd.prog 58 #[.string brk, .int .i32 (R : Int)] w fun e w' => e = .returned (.int .i64 (-1)) ∧ Below w.heap.size w w' := by
 by_cases hE : R = 65533
 · subst hE
   clear h0 hR
   go_enter Tryd.func58, Tryd.ntmps58
   go_wp2
   go_loopg [5, 6] 2 (fun g _ _ wx => ∃ i : Nat, i + g = 2 ∧ wx.heap[w.heap.size]? = some (.stringIter brk i) ∧ Hid (Below w.heap.size w wx))
   case atStart => exact ⟨0, rfl, World.iter_heap w brk 0, (Below.refl _ w).alloc (Nat.le_refl _) _⟩
   case round =>
    obtain ⟨i, hig, hit, HB⟩ := hrel
    cases gk with
    | zero =>
     obtain rfl : i = 2 := by omega
     have hnx : ∀ ty, (Instr.next (.pointer (some ⟨w.heap.size, 0, none⟩)) true ty).run Tryd.prog wr = _ := fun ty => Lib.run_next_end_at wr w.heap.size brk 2 ty hit (by decide)
     clear hit
     go_wp2
     go_ret
     exact ⟨rfl, HB.out⟩
    | succ g =>
     have h01 : i = 0 ∨ i = 1 := by omega
     rcases h01 with rfl | rfl
     · have hnx : ∀ ty, (Instr.next (.pointer (some ⟨w.heap.size, 0, none⟩)) true ty).run Tryd.prog wr = _ := fun ty => Lib.run_next_ascii_at wr w.heap.size brk 0 ty hit (by decide) (by decide)
       have hit2 := Lib.iterAt_heap wr w.heap.size brk 0 1 hit
       have HB2 := Lib.hid (Lib.below_iterAt HB.out (k := w.heap.size) (Nat.le_refl _) brk 1)
       clear hit HB
       go_wp2
       go_roundg g
       case measure => omega
       case rel => exact ⟨1, by omega, hit2, HB2⟩
     · have hnx : ∀ ty, (Instr.next (.pointer (some ⟨w.heap.size, 0, none⟩)) true ty).run Tryd.prog wr = _ := fun ty => Lib.run_next_ascii_at wr w.heap.size brk 1 ty hit (by decide) (by decide)
       have hit2 := Lib.iterAt_heap wr w.heap.size brk 1 2 hit
       have HB2 := Lib.hid (Lib.below_iterAt HB.out (k := w.heap.size) (Nat.le_refl _) brk 2)
       clear hit HB
       go_wp2
       go_roundg g
       case measure => omega
       case rel => exact ⟨2, by omega, hit2, HB2⟩
 · have eE : ((R : Int) == 65533) = false := by rw [beq_eq_false_iff_ne]; omega
   by_cases hv : (decide (R < 55296) || decide (57343 < R)) = true
   · have HV := Lib.hid (sValid_c R hR true hv w)
     have hva : Utf8.valid (R : Int) = true := by unfold Utf8.valid; simp at hv ⊢; omega
     by_cases h2 : R < 2048
     · have hcv := fun W => conv_rune (enc2 h0 h2) W
       obtain ⟨c1, hc1⟩ : ∃ c, UInt8.ofNat (192 + R / 64) = c := ⟨_, rfl⟩
       obtain ⟨c2, hc2⟩ : ∃ c, UInt8.ofNat (128 + R % 64) = c := ⟨_, rfl⟩
       have hc3 : c2.toNat = 128 + R % 64 := by rw [← hc2, UInt8.toNat_ofNat']; omega
       rw [hc1, hc2] at hcv
       have hne : ((((brk : ByteArray)[1]'(by decide)).toNat : Int) != (((⟨#[c1, c2]⟩ : ByteArray)[1]'(by show 1 < 2; decide)).toNat : Int)) = true := by
        show ((10 : Int) != (c2.toNat : Int)) = true
        rw [bne_iff_ne]; omega
       have HX := fun c W => Any.strings_IndexByte Tryd.lays137 ⟨#[]⟩ c W
       have Hcv := Lib.hid hcv
       clear hc1 hc2 hc3 hva hv hcv
       go_enter Tryd.func58, Tryd.ntmps58
       go_wp2_with (go_at_call 63; (with_reducible refine HV.out.mono ?_); rintro e wx ⟨rfl, rfl⟩)
       go_step3
       go_wp2_with (refine wpList_conv (by rfl) _ _ _ (by rfl) _ _ (by rfl) Hcv ?_)
       clear HV Hcv
       go_loopw [9] (fun i wr => i = .int .i64 1 ∧ w = wr) (fun _ _ => 0)
       case atStart => exact ⟨rfl, rfl⟩
       case round =>
        obtain ⟨rfl, rfl⟩ := hrel
        go_wp2
        go_step3
        go_wp2
        go_quiet (fail)
        have HB := Lib.hid (below_drewN (Below.refl w.heap.size w) nq)
        generalize w.drewN nq = wq at *
        go_wp2
        have HY : Hid (∀ (c : Int) (W : World), Calls Tryd.prog 62 #[.string ⟨#[]⟩, .int .u8 c] W fun e w' => e = .returned (.int .i64 (-1)) ∧ w' = W) := fun c W => (HX c W).mono fun e w' h => h
        clear HX
        have hsl : ∀ W, (Instr.slice 9 (.string brk) (some (.int .i64 2)) none none).run Tryd.prog W = .ok (.string ⟨#[]⟩) W := fun W => by kernel_rfl
        have hw2 : IntKind.i64.wrap 2 = 2 := by decide
        go_quiet ((go_at_call 62; exact Calls.quiet_of_same (HY.out _ _)))
        go_wp2
        repeat (first | rw [Exit.noGoto_ret] | show Exit.noGoto _ Exit.ret _ _)
        show bodyPost _ _ _ Exit.ret _ _
        go_ret
        exact ⟨rfl, below_drewN HB.out _⟩
     · obtain ⟨E, hEn⟩ : ∃ E, Utf8.encode (R : Int) = E := ⟨_, rfl⟩
       have Hcv := Lib.hid (fun W => conv_rune hEn W)
       have hsz : 3 ≤ E.size := by rw [← hEn]; exact enc_size (by omega) hva
       have hsz2 : E.size ≤ 4 := by rw [← hEn]; exact enc_le R
       clear hEn hva hv
       go_enter Tryd.func58, Tryd.ntmps58
       go_wp2_with (go_at_call 63; (with_reducible refine HV.out.mono ?_); rintro e wx ⟨rfl, rfl⟩)
       go_step3
       go_wp2_with (refine wpList_conv (by rfl) _ _ _ (by rfl) _ _ (by rfl) Hcv ?_)
       clear HV Hcv
       have hlt : ¬ ((E.size : Int) - 1 < 2) := by omega
       go_loopw [9] (fun i wr => i = .int .i64 ((E.size : Int) - 1) ∧ w = wr) (fun _ _ => 0)
       case atStart => exact ⟨rfl, rfl⟩
       case round =>
        obtain ⟨rfl, rfl⟩ := hrel
        go_wp2
        go_ret
        exact ⟨rfl, Below.refl _ _⟩
   · have HV := Lib.hid (sValid_c R hR false (by simpa using hv) w)
     clear hv
     go_enter Tryd.func58, Tryd.ntmps58
     go_wp2_with (go_at_call 63; (with_reducible refine HV.out.mono ?_); rintro e wx ⟨rfl, rfl⟩)
     go_ret
     exact ⟨rfl, Below.refl _ _⟩
def NoU (s : ByteArray) (i : Nat) : Prop := ∀ j, j < i → j < s.size → okB (s.get! j).toNat = true
theorem NoU.step {s : ByteArray} {i k : Nat} (h : NoU s i) (hk : ∀ j, j < k → i + j < s.size ∧ 128 ≤ (s.get! (i + j)).toNat) : NoU s (i + k) := by
 intro j hj hs
 rcases Nat.lt_or_ge j i with h1 | h1
 · exact h j h1 hs
 · obtain ⟨d, rfl⟩ : ∃ d, j = i + d := ⟨j - i, by omega⟩
   have := (hk d (by omega)).2
   unfold okB
   simp; omega
theorem NoU.succ {s : ByteArray} {i : Nat} (h : NoU s i) (hb : okB (s.get! i).toNat = true) : NoU s (i + 1) := by
 intro j hj hs
 rcases Nat.lt_or_ge j i with h1 | h1
 · exact h j h1 hs
 · obtain rfl : j = i := by omega
   exact hb
theorem get_bang (s : ByteArray) (i : Nat) (hi : i < s.size) : s.get! i = s[i]'hi := by
 cases s with
 | mk a => exact getElem!_pos a i hi
theorem all_iff (s : ByteArray) : ((bytesOf s).all fun c => !(c == 93 || c == 10)) = true ↔ NoU s s.size := by
 rw [List.all_eq_true]
 constructor
 · intro h j _ hj
   have := h ((s[j]'hj).toNat) (List.mem_map.2 ⟨s[j]'hj, by rw [← Array.mem_def]; exact Array.getElem_mem _, rfl⟩)
   rw [get_bang s j hj]
   exact this
 · intro h x hx
   obtain ⟨b, hb, rfl⟩ := List.mem_map.1 hx
   obtain ⟨j, hj, e⟩ := List.mem_iff_getElem.1 hb
   have hj2 : j < s.size := by simpa using hj
   have := h j hj2 hj2
   rw [get_bang s j hj2] at this
   have e2 : s[j]'hj2 = b := by rw [← e]; rfl
   rw [e2] at this
   exact this
theorem index_brk (x : Nat) (hx : x < 256) : (0 ≤ Lib.indexByte brk.data.toList (x.toUInt8)) ↔ okB x = false := by
 revert hx
 revert x
 decide +kernel
theorem sRuneA_c (x : Nat) (hx : x < 128) (z : Int) (hz : Lib.indexByte brk.data.toList x.toUInt8 = z) (w : World) :
 Calls Tryd.prog 58 #[.string brk, .int .i32 (x : Int)] w fun e w' => e = .returned (.int .i64 z) ∧ w = w' := by
 refine (Any.strings_IndexRune_ascii { Tryd.lays152 with } brk (x : Int) w (by omega) (by omega)).mono ?_
 rintro e w' ⟨rfl, rfl⟩
 rw [Int.toNat_natCast, hz]
 exact ⟨rfl, rfl⟩
set_option maxHeartbeats 4000000 in
set_option maxRecDepth 100000 in
theorem sAnyS_c (s : ByteArray) (h8 : s.size ≤ 8) (v : Bool) (hv : (bytesOf s).all (fun c => !(c == 93 || c == 10)) = v) (w : World) :
 Calls Tryd.prog 54 #[.string s, .string brk] w fun e w' => ∃ r : Int, e = .returned (.int .i64 r) ∧ decide (0 ≤ r) = !v ∧ Below w.heap.size w w' := by
 have HV := Lib.hid hv
 clear hv
 have h8z : decide ((8 : Int) < (s.size : Int)) = false := decide_eq_false (by omega)
 go_enter Tryd.func54, Tryd.ntmps54
 go_wp2_with (go_at_call 59; refine (Any.strings_shouldUseASCIISet { Tryd.lays153 with } _ _).mono ?_; rintro e w' ⟨rfl, hw⟩; rw [hw, h8z])
 go_loopg [9, 10] s.size (fun g _ _ wx => ∃ i : Nat, s.size ≤ i + g ∧ i ≤ s.size ∧ wx.heap[w.heap.size]? = some (.stringIter s i) ∧ Hid (Below w.heap.size w wx) ∧ Hid (NoU s i))
 case atStart => exact ⟨0, by omega, Nat.zero_le _, World.iter_heap w s 0, (Below.refl _ w).alloc (Nat.le_refl _) _, fun j hj => absurd hj (Nat.not_lt_zero j)⟩
 case round =>
  obtain ⟨i, hig, his, hit, HB, HN⟩ := hrel
  by_cases hlt : i < s.size
  · obtain ⟨g', rfl⟩ : ∃ g', gk = g' + 1 := ⟨gk - 1, by omega⟩
    have hx256 : (s.get! i).toNat < 256 := (s.get! i).toNat_lt
    by_cases hx : (s.get! i).toNat < 128
    · have hnx : ∀ ty, (Instr.next (.pointer (some ⟨w.heap.size, 0, none⟩)) true ty).run Tryd.prog wr = _ := fun ty => Lib.run_next_ascii_at wr w.heap.size s i ty hit hlt (by rw [← get_bang s i hlt]; exact hx)
      rw [← get_bang s i hlt] at hnx
      have hit2 := Lib.iterAt_heap wr w.heap.size s i (i + 1) hit
      have HB2 := Lib.hid (Lib.below_iterAt HB.out (k := w.heap.size) (Nat.le_refl _) s (i + 1))
      obtain ⟨W, hW⟩ : ∃ W, wr.iterAt w.heap.size s (i + 1) = W := ⟨_, rfl⟩
      rw [hW] at hnx hit2 HB2
      obtain ⟨x, hxe⟩ : ∃ x, (s.get! i).toNat = x := ⟨_, rfl⟩
      have hok := index_brk x (by omega)
      obtain ⟨z, hz⟩ : ∃ z, Lib.indexByte brk.data.toList x.toUInt8 = z := ⟨_, rfl⟩
      rw [hz] at hok
      have Hz := Lib.hid hz
      clear hz
      have HO : Hid (okB x = true → NoU s (i + 1)) := fun e => HN.out.succ (by rw [hxe]; exact e)
      rw [hxe] at hnx hx hx256
      have HXE := Lib.hid hxe
      clear hxe hW hit HB hx256
      by_cases hb : okB x = true
      · have hneg : ¬ (0 ≤ z) := fun e => by have := hok.1 e; rw [hb] at this; cases this
        have HNx := Lib.hid (HO.out hb)
        clear hok hb
        go_wp2_with (go_at_call 58; refine (sRuneA_c x hx z Hz.out _).mono ?_; rintro e w' ⟨rfl, rfl⟩)
        go_roundg g'
        case measure => omega
        case rel => exact ⟨i + 1, by omega, by omega, hit2, HB2, HNx⟩
      · have hge : 0 ≤ z := hok.2 (by simpa using hb)
        have HVf : Hid (v = false) := by
         show _ = _
         rw [← HV.out]
         refine Bool.eq_false_iff.2 fun e => hb ?_
         have := (all_iff s).1 e i hlt hlt
         rwa [HXE.out] at this
        clear hok hb
        go_wp2_with (go_at_call 58; refine (sRuneA_c x hx z Hz.out _).mono ?_; rintro e w' ⟨rfl, rfl⟩)
        go_ret
        exact ⟨_, rfl, by rw [HVf.out]; exact decide_eq_true (by omega), HB2.out⟩
    · have hdh := dec_high s i hlt (by omega)
      have hnx : ∀ ty, (Instr.next (.pointer (some ⟨w.heap.size, 0, none⟩)) true ty).run Tryd.prog wr = _ := fun ty => Lib.run_next_any_at wr w.heap.size s i ty hit hlt
      have hwd := Lib.width_pos s i
      have hrl := Lib.rune_le s i
      obtain ⟨R, hR⟩ : ∃ R, (Utf8.decode s i).1 = R := ⟨_, rfl⟩
      obtain ⟨K, hK⟩ : ∃ K, (Utf8.decode s i).2 = K := ⟨_, rfl⟩
      rw [hR, hK] at hnx hdh
      rw [hK] at hwd
      rw [hR] at hrl
      have hlast := (hdh.2 (K - 1) (by omega)).1
      have HNx := Lib.hid (HN.out.step hdh.2)
      have hR0 := hdh.1
      have hit2 := Lib.iterAt_heap wr w.heap.size s i (i + K) hit
      have HB2 := Lib.hid (Lib.below_iterAt HB.out (k := w.heap.size) (Nat.le_refl _) s (i + K))
      obtain ⟨W, hW⟩ : ∃ W, wr.iterAt w.heap.size s (i + K) = W := ⟨_, rfl⟩
      rw [hW] at hnx hit2 HB2
      clear hdh hW hit HB HN hR hK hx
      have HIT : Hid (∀ W', Below W.heap.size W W' → W'.heap[w.heap.size]? = some (.stringIter s (i + K)) ∧ Below w.heap.size w W') := fun W' hb => ⟨(hb.block _ (Array.getElem?_eq_some_iff.1 hit2).1).trans hit2, below_two HB2.out hb⟩
      clear hit2 HB2
      go_wp2_with (go_at_call 58; refine (sRune_c R hR0 hrl _).mono ?_; rintro e W' ⟨rfl, hb⟩)
      have h3 := HIT.out W' hb
      have hit3 := h3.1
      have HB3 := Lib.hid h3.2
      clear h3 hb HIT
      go_wp2
      go_roundg g'
      case measure => omega
      case rel => exact ⟨i + K, by omega, by omega, hit3, HB3, HNx⟩
  · have hnx : ∀ ty, (Instr.next (.pointer (some ⟨w.heap.size, 0, none⟩)) true ty).run Tryd.prog wr = _ := fun ty => Lib.run_next_end_at wr w.heap.size s i ty hit hlt
    have HVt : Hid (v = true) := by
     show _ = _
     rw [← HV.out]
     exact (all_iff s).2 fun j hj hs => HN.out j (by omega) hs
    clear hit
    go_wp2
    go_ret
    exact ⟨_, rfl, by rw [HVt.out]; rfl, HB.out⟩
theorem indexAny_all : ∀ l : List UInt8, decide (0 ≤ Lib.indexAny l brk.data.toList) = !((l.map UInt8.toNat).all fun c => !(c == 93 || c == 10)) := by
 intro l
 induction l with
 | nil => rfl
 | cons b l ih =>
  have hc : brk.data.toList.contains b = (b.toNat == 93 || b.toNat == 10) := by
   have : ∀ b : UInt8, brk.data.toList.contains b = (b.toNat == 93 || b.toNat == 10) := by
    intro b
    show ([93, 10] : List UInt8).contains b = _
    simp only [List.contains_cons, List.contains_nil, Bool.or_false]
    congr 1
    · rw [Bool.eq_iff_iff, beq_iff_eq, beq_iff_eq, ← UInt8.toNat_inj]; rfl
    · rw [Bool.eq_iff_iff, beq_iff_eq, beq_iff_eq, ← UInt8.toNat_inj]; rfl
   exact this b
  have hg := Lib.indexAny_ge brk.data.toList l
  rw [List.map_cons, List.all_cons]
  unfold Lib.indexAny
  rw [hc]
  cases hb : (b.toNat == 93 || b.toNat == 10)
  · rw [Bool.not_false, Bool.true_and, ← ih]
    simp only [Bool.false_eq_true, if_false]
    generalize Lib.indexAny l brk.data.toList = z at hg
    by_cases hz : z = -1
    · subst hz; rfl
    · rw [if_neg (by simpa using hz)]
      by_cases h0 : 0 ≤ z
      · rw [decide_eq_true h0, decide_eq_true (by omega)]
      · omega
  · simp
theorem zero_set (W : World) : (zeroValue (Tryd.lays153_ren.t 116)).run Tryd.prog W = .ok (.agg (Array.replicate 256 (.bool false))) W := by kernel_rfl
theorem sAny_c (s : ByteArray) (hs : s.size ≤ 1000000000) (v : Bool) (hv : (bytesOf s).all (fun c => !(c == 93 || c == 10)) = v) (w : World) :
 Calls Tryd.prog 54 #[.string s, .string brk] w fun e w' => ∃ r : Int, e = .returned (.int .i64 r) ∧ decide (0 ≤ r) = !v ∧ Below w.heap.size w w' := by
 by_cases h8 : s.size ≤ 8
 · exact sAnyS_c s h8 v hv w
 · refine (Any.strings_IndexAny_long Tryd.lays153 zero_set (by kernel_rfl) s brk w (by decide) (by omega) (by omega) (by decide) ?_).mono ?_
   · intro j b hb
     match j, hb with
     | 0, hb => cases hb; decide
     | 1, hb => cases hb; decide
   · rintro e w' ⟨rfl, rfl⟩
     refine ⟨_, rfl, ?_, below_two (below_new _ _) (below_new _ _)⟩
     rw [indexAny_all, ← hv]
     rfl
set_option maxHeartbeats 1000000 in
theorem sContains_c (s : ByteArray) (hs : s.size ≤ 1000000000) (v : Bool) (hv : (bytesOf s).all (fun c => !(c == 93 || c == 10)) = v) (w : World) :
 Calls Tryd.prog 47 #[.string s, .string brk] w fun e w' => e = .returned (.bool (!v)) ∧ Below w.heap.size w w' := by
 have HA := Lib.hid (sAny_c s hs v hv w)
 clear hv
 go_enter Tryd.func47, Tryd.ntmps47
 go_wp2_with fail
 refine HA.out.mono ?_
 rintro e w1 ⟨r, rfl, hr, bn⟩
 have HB := Lib.hid bn
 clear bn HA
 go_wp2
 go_ret
 exact ⟨rfl, HB.out⟩
set_option maxHeartbeats 1000000 in
theorem tBr_c (s : ByteArray) (hs : s.size ≤ 1000000000) (v : Bool) (hv : unitOk s = v) (w : World) :
 Calls Tryd.prog 40 #[.string s] w fun e w' => e = .returned (.bool v) ∧ Below w.heap.size w w' := by
 unfold unitOk at hv
 by_cases h2 : s.size ≤ 200
 · rw [decide_eq_true h2, Bool.true_and] at hv
   have HA := Lib.hid (sContains_c s hs v hv w)
   clear hv
   go_enter Tryd.func40, Tryd.ntmps40
   go_wp2_with fail
   refine HA.out.mono ?_
   rintro e w1 ⟨rfl, bn⟩
   have HB := Lib.hid bn
   clear bn HA
   go_wp2
   go_ret
   exact ⟨rfl, HB.out⟩
 · rw [decide_eq_false h2, Bool.false_and] at hv
   subst hv
   go_enter Tryd.func40, Tryd.ntmps40
   go_wp2
   go_ret
   exact ⟨rfl, Below.refl _ _⟩
end Go.Proofs.YtbddhflmknaadaaDoor

/- What package tree's fits answers, as a contract over memory. Conditions: texts of at most 10^6 bytes; the tables of kinds read as they are laid. -/
namespace Go.Proofs.YtbddhflmknaadaaDoor
open Go.RowKit Limb
set_option linter.unusedVariables false
def restN (x : Nd) : Bool := if x.k = 1 then litGood (bytesOf x.t) && unitOk x.u else if x.k = 2 then isNam (bytesOf x.t) else if x.k = 8 then decide (-64 ≤ x.n) && decide (x.n ≤ 64) else !decide (x.k = 0)
theorem emp_is : ByteArray.empty = (⟨#[]⟩ : ByteArray) := rfl
theorem fits_own (x : Nd) : fitsN x = (eqN x (ownN x) && restN x) := by
 obtain ⟨k, a, b, n, t, u, p⟩ := x
 unfold fitsN eqN sameN ownN restN
 dsimp only
 by_cases h1 : k = 1
 · subst h1; simp; grind
 · by_cases h2 : k = 2
   · subst h2; simp [emp_is]
   · by_cases h3 : twoK k = true
     · have := twoK_iff.1 h3
       simp [h1, h2, h3, emp_is, show ¬ k = 8 by omega, show ¬ k = 0 by omega]
     · by_cases h7 : k = 7
       · subst h7; simp [emp_is, h3]
       · by_cases h8 : k = 8
         · subst h8; simp [emp_is, h3]; grind
         · by_cases h0 : k = 0
           · subst h0; simp [h3]
           · simp [h1, h2, h3, h7, h8, h0, zNd]
set_option maxHeartbeats 4000000 in
set_option maxRecDepth 100000 in
theorem tFits_c (kk a b n : Int) (t u : ByteArray) (p : Int) (ht : t.size ≤ 1000000) (hu : u.size ≤ 1000000) (w : World) (T : XTab w) (v : Bool) (hv : fitsN ⟨kk, a, b, n, t, u, p⟩ = v) :
 Calls Tryd.prog 30 #[.agg (ndC kk a b n t u p)] w fun e w' => e = .returned (.bool v) ∧ Below w.heap.size w w' := by
 obtain ⟨V, hV⟩ : ∃ V, ndV (ownN ⟨kk, a, b, n, t, u, p⟩) = V := ⟨_, rfl⟩
 have HV := Lib.hid hV
 have HT := Lib.hid T
 have HL : Hid (t.size ≤ 1000000 ∧ u.size ≤ 1000000) := ⟨ht, hu⟩
 rw [fits_own] at hv
 have b0 := below_new w (.cells (ndC kk a b n t u p) 37)
 have h_rx := rowA_new w 37 (ndC kk a b n t u p)
 have HB := Lib.hid b0
 have HM := Lib.hid (manyNd kk a b n t u p)
 clear b0 hV T ht hu
 cases hq : eqN ⟨kk, a, b, n, t, u, p⟩ (ownN ⟨kk, a, b, n, t, u, p⟩)
 · rw [hq, Bool.false_and] at hv
   subst hv
   have HQ := Lib.hid hq
   clear hq
   go_enter Tryd.func30, Tryd.ntmps30
   go_wp2_with fail
   generalize w.alloc (.cells (ndC kk a b n t u p) 37) = wS at *
   obtain ⟨q_x, eg⟩ : ∃ g, g = w.heap.size := ⟨_, rfl⟩
   rw [← eg] at h_rx ⊢
   clear eg
   refine region_free 4 0 [3, 4, 5, 6] ?aF4 (fun wx => Below wS.heap.size wS wx) (fun k vv wx => match k with
    | 0 => vv = .agg (ndC kk a b n t u p)
    | 1 => vv = .agg (ndC kk a b n t u p)
    | 2 => vv = .agg V
    | _ => vv = .bool true)
    (fun k => false) (by kernel_rfl) ?haF4 rfl (by kernel_rfl) (by kernel_rfl) (fun _ _ _ _ _ h => h) ?hSb4 ?hPb4 ?hS4 ?hop4 ?hfin4
   case haF4 =>
    intro vals
    simp only [fillAll, List.getElem?_cons_zero, List.getElem?_cons_succ, Act.put, List.setIfInBounds_toArray, List.set_cons_zero, List.set_cons_succ]
    exact rfl
   case hSb4 => exact fun wx w2 hb hS => below_two hS hb
   case hPb4 =>
    intro k v wa wb hb h
    match k, h with
    | 0, h => exact h
    | 1, h => exact h
    | 2, h => exact h
    | _ + 3, h => exact h
   case hS4 => exact (Below.refl _ _).drew
   case hop4 =>
    refine .cons (k := 0) ?_ (.cons (k := 1) ?_ (.cons (k := 2) ?_ (.cons (k := 3) ?_ (.nil))))
    all_goals intro vals wr hS hd KC hK
    all_goals (show Oper.wp _ _ _ _ _ _; dsimp only)
    · refine wp_loadV 37 _ rfl _ _ rfl (ndC kk a b n t u p) (Lib.hid (h_rx.below hS).inV) (Lib.hid HM.out) ?_
      refine hK _ _ rfl (Below.refl _ _) (by first | rfl | simp) (fun h => by cases h)
    · refine wp_loadV 37 _ rfl _ _ rfl (ndC kk a b n t u p) (Lib.hid (h_rx.below hS).inV) (Lib.hid HM.out) ?_
      refine hK _ _ rfl (Below.refl _ _) (by first | rfl | simp) (fun h => by cases h)
    · have d1 : vals 1 = _ := hd 1 (by decide +kernel)
      rw [d1]
      go_simp
      go_at_call 38
      with_reducible refine (tOwn_c kk a b n t u p V HV.out _).mono ?_
      rintro e w2 ⟨rfl, bn_r⟩
      refine hK _ _ rfl bn_r rfl (fun h => by cases h)
    · have d0 : vals 0 = _ := hd 0 (by decide +kernel)
      have d2 : vals 2 = _ := hd 2 (by decide +kernel)
      rw [d0, d2]
      have heq : ∀ W, (Op.equalIn 10000 37 (.agg (ndC kk a b n t u p)) (.agg V)).run Tryd.prog W = .ok false W := fun W => by
       have := equal_nd (x := ⟨kk, a, b, n, t, u, p⟩) (y := ownN ⟨kk, a, b, n, t, u, p⟩) HQ.out W
       rw [HV.out] at this
       exact this
      go_simp
      refine hK _ _ rfl (Below.refl _ _) (by first | rfl | simp) (fun h => by cases h)
   case hfin4 =>
    intro vals wr hS hP hne
    have ez_3 : vals 3 = _ := hP 3 (by decide)
    try dsimp only
    rw [ez_3]
    refine wpAny_done (by kernel_rfl) ?_ _
    have HE := Lib.hid (below_two HB.out hS)
    clear hS hP hne
    go_wp2
    go_ret
    exact ⟨rfl, HE.out⟩
 · rw [hq, Bool.true_and] at hv
   have HQ := Lib.hid hq
   unfold restN at hv
   dsimp only at hv
   clear hq
   go_enter Tryd.func30, Tryd.ntmps30
   go_wp2_with fail
   generalize w.alloc (.cells (ndC kk a b n t u p) 37) = wS at *
   obtain ⟨q_x, eg⟩ : ∃ g, g = w.heap.size := ⟨_, rfl⟩
   rw [← eg] at h_rx ⊢
   clear eg
   refine region_free 4 0 [3, 4, 5, 6] ?aF5 (fun wx => Below wS.heap.size wS wx) (fun k vv wx => match k with
    | 0 => vv = .agg (ndC kk a b n t u p)
    | 1 => vv = .agg (ndC kk a b n t u p)
    | 2 => vv = .agg V
    | _ => vv = .bool false)
    (fun k => false) (by kernel_rfl) ?haF5 rfl (by kernel_rfl) (by kernel_rfl) (fun _ _ _ _ _ h => h) ?hSb5 ?hPb5 ?hS5 ?hop5 ?hfin5
   case haF5 =>
    intro vals
    simp only [fillAll, List.getElem?_cons_zero, List.getElem?_cons_succ, Act.put, List.setIfInBounds_toArray, List.set_cons_zero, List.set_cons_succ]
    exact rfl
   case hSb5 => exact fun wx w2 hb hS => below_two hS hb
   case hPb5 =>
    intro k v wa wb hb h
    match k, h with
    | 0, h => exact h
    | 1, h => exact h
    | 2, h => exact h
    | _ + 3, h => exact h
   case hS5 => exact (Below.refl _ _).drew
   case hop5 =>
    refine .cons (k := 0) ?_ (.cons (k := 1) ?_ (.cons (k := 2) ?_ (.cons (k := 3) ?_ (.nil))))
    all_goals intro vals wr hS hd KC hK
    all_goals (show Oper.wp _ _ _ _ _ _; dsimp only)
    · refine wp_loadV 37 _ rfl _ _ rfl (ndC kk a b n t u p) (Lib.hid (h_rx.below hS).inV) (Lib.hid HM.out) ?_
      refine hK _ _ rfl (Below.refl _ _) (by first | rfl | simp) (fun h => by cases h)
    · refine wp_loadV 37 _ rfl _ _ rfl (ndC kk a b n t u p) (Lib.hid (h_rx.below hS).inV) (Lib.hid HM.out) ?_
      refine hK _ _ rfl (Below.refl _ _) (by first | rfl | simp) (fun h => by cases h)
    · have d1 : vals 1 = _ := hd 1 (by decide +kernel)
      rw [d1]
      go_simp
      go_at_call 38
      with_reducible refine (tOwn_c kk a b n t u p V HV.out _).mono ?_
      rintro e w2 ⟨rfl, bn_r⟩
      refine hK _ _ rfl bn_r rfl (fun h => by cases h)
    · have d0 : vals 0 = _ := hd 0 (by decide +kernel)
      have d2 : vals 2 = _ := hd 2 (by decide +kernel)
      rw [d0, d2]
      have heq : ∀ W, (Op.equalIn 10000 37 (.agg (ndC kk a b n t u p)) (.agg V)).run Tryd.prog W = .ok true W := fun W => by
       have := equal_nd (x := ⟨kk, a, b, n, t, u, p⟩) (y := ownN ⟨kk, a, b, n, t, u, p⟩) HQ.out W
       rw [HV.out] at this
       exact this
      go_simp
      refine hK _ _ rfl (Below.refl _ _) (by first | rfl | simp) (fun h => by cases h)
   case hfin5 =>
    intro vals wr hS hP hne
    have ez_3 : vals 3 = _ := hP 3 (by decide)
    try dsimp only
    rw [ez_3]
    refine wpAny_done (by kernel_rfl) ?_ _
    have hx2 := h_rx.below hS
    have k0 := hx2.cell (k := 0) (v := .int .i64 kk) rfl
    have k3 := hx2.cell (k := 3) (v := .int .i64 n) rfl
    have k4 := hx2.cell (k := 4) (v := .string t) rfl
    have k5 := hx2.cell (k := 5) (v := .string u) rfl
    have HE := Lib.hid (below_two HB.out hS)
    have HTw := Lib.hid (HT.out.below HE.out)
    clear hS hP hne hx2 h_rx HM HV HQ HB HT
    by_cases h1 : kk = 1
    · subst h1
      rw [if_pos rfl] at hv
      cases hg : litGood (bytesOf t)
      · rw [hg, Bool.false_and] at hv
        subst hv
        have HG := Lib.hid hg
        clear hg
        go_wp2_with fail
        refine (litGood_w t (by have := HL.out.1; omega) _ HTw.out.1 false HG.out).mono ?_
        rintro e wx ⟨rfl, rfl⟩
        go_wp2
        go_ret
        exact ⟨rfl, HE.out⟩
      · rw [hg, Bool.true_and] at hv
        have HG := Lib.hid hg
        have HU := Lib.hid hv
        clear hg hv
        go_wp2_with fail
        refine (litGood_w t (by have := HL.out.1; omega) _ HTw.out.1 true HG.out).mono ?_
        rintro e wx ⟨rfl, rfl⟩
        go_wp2_with fail
        refine (tBr_c u (by have := HL.out.2; omega) v HU.out _).mono ?_
        rintro e w2 ⟨rfl, bn⟩
        have HE2 := Lib.hid (below_two HE.out bn)
        clear bn
        go_wp2
        go_ret
        exact ⟨rfl, HE2.out⟩
    · have e1 : (kk == 1) = false := by rw [beq_eq_false_iff_ne]; exact h1
      rw [if_neg h1] at hv
      by_cases h2 : kk = 2
      · subst h2
        rw [if_pos rfl] at hv
        have HN := Lib.hid hv
        clear hv
        go_wp2_with fail
        refine (lkIsName_c t (by have := HL.out.1; omega) _ HTw.out.2 v HN.out).mono ?_
        rintro e wx ⟨rfl, rfl⟩
        go_wp2
        go_ret
        exact ⟨rfl, HE.out⟩
      · have e2 : (kk == 2) = false := by rw [beq_eq_false_iff_ne]; exact h2
        rw [if_neg h2] at hv
        by_cases h8 : kk = 8
        · subst h8
          rw [if_pos rfl] at hv
          by_cases n1 : -64 ≤ n
          · by_cases n2 : n ≤ 64
            · rw [decide_eq_true n1, decide_eq_true n2] at hv
              subst hv
              go_wp2
              go_ret
              exact ⟨rfl, HE.out⟩
            · rw [decide_eq_true n1, decide_eq_false n2] at hv
              subst hv
              go_wp2
              go_ret
              exact ⟨rfl, HE.out⟩
          · rw [decide_eq_false n1, Bool.false_and] at hv
            subst hv
            go_wp2
            go_ret
            exact ⟨rfl, HE.out⟩
        · have e8 : (kk == 8) = false := by rw [beq_eq_false_iff_ne]; exact h8
          rw [if_neg h8] at hv
          by_cases h0 : kk = 0
          · subst h0
            rw [decide_eq_true rfl] at hv
            subst hv
            go_wp2
            go_ret
            exact ⟨rfl, HE.out⟩
          · rw [decide_eq_false h0] at hv
            subst hv
            have e0 : (kk != 0) = true := by rw [bne_iff_ne]; exact h0
            go_wp2
            go_ret
            exact ⟨rfl, HE.out⟩
end Go.Proofs.YtbddhflmknaadaaDoor

/- What package tree's Good answers, as a contract over memory. Conditions: at most 10^6 nodes, texts of at most 10^6 bytes; the tables of kinds read as they are laid. -/
namespace Go.Proofs.YtbddhflmknaadaaDoor
open Go.RowKit Limb
set_option linter.unusedVariables false
def Mild (ts : List Nd) : Prop := ts.length ≤ 1000000 ∧ ∀ x ∈ ts, x.t.size ≤ 1000000 ∧ x.u.size ≤ 1000000
theorem Mild.at {ts : List Nd} (h : Mild ts) {i : Nat} {x : Nd} (hx : ts[i]? = some x) : x.t.size ≤ 1000000 ∧ x.u.size ≤ 1000000 := h.2 x (List.mem_of_getElem? hx)
theorem made_int (W : World) (n : Nat) (hn : n ≤ 1000000) : (Instr.makeSlice 41 (.int .i64 (n : Int)) (.int .i64 (n : Int))).run Tryd.prog W = .ok (.slice (some ⟨W.heap.size, 0, none⟩) n n) (W.alloc (.cells (ints .i64 (List.replicate n 0)) 3)) := by
 obtain ⟨i0, z, h1, h2, h3, h4, h5, h6, h7⟩ := (elem_of Tryd.underlying41 (v := .int .i64 0) (b := 8) (by kernel_rfl) rfl (by decide) (by decide) : Elem Tryd.prog 41 3 1)
 have hz : z = .int .i64 0 := by
  have : (Tryd.prog.info? 3).map (·.zero) = some (some (.int .i64 0)) := by kernel_rfl
  rw [h2] at this
  simp [h3] at this
  exact this
 have h := run_make (P := Tryd.prog) W 41 3 i0 z h1 h2 h3 .i64 .i64 (n : Int) (n : Int) (by omega) (by omega) (by have : i0.bytes * n ≤ 1000 * 1000000 := Nat.mul_le_mul h7 hn
                                                                                                                  have e : (i0.bytes : Int) * (n : Int) = ((i0.bytes * n : Nat) : Int) := by simp
                                                                                                                  rw [e]; omega) (by omega)
 rw [h4, hz, Int.toNat_natCast, Nat.mul_one] at h
 have e : madeCells (Value.int .i64 0).cells n = ints .i64 (List.replicate n 0) := by
  apply Array.toList_inj.1
  show (madeCells #[Value.int .i64 0] n).toList = _
  rw [toList_madeCells_one]
  simp [ints]
 rw [e] at h
 exact h
theorem nuR_new (W : World) (n : Nat) : NuR (W.alloc (.cells (ints .i64 (List.replicate n 0)) 3)) W.heap.size 3 [] n := by
 unfold NuR
 rw [List.map_nil, List.nil_append]
 exact rowA_new W 3 _
set_option maxHeartbeats 2000000 in
set_option maxRecDepth 100000 in
theorem tGood_c {w : World} {A : Option Addr} {n c : Nat} {ts : List Nd} (h : TreR w A n c ts) (hm : Mild ts) (T : XTab w) (v : Bool) (hv : goodT ts = v) :
 Calls Tryd.prog 21 #[.slice A n c] w fun e w' => e = .returned (.bool v) ∧ Below w.heap.size w w' := by
 obtain ⟨hn, hc, hcm, _⟩ := id h
 have hn6 := hm.1
 rw [← hn] at hn6
 have H := Lib.hid h
 have HM := Lib.hid hm
 have HT := Lib.hid T
 have HN := Lib.hid hn
 clear h hm T hn
 by_cases h0 : n < 1
 · rw [goodT_empty (by rw [← HN.out]; exact h0)] at hv
   subst hv
   obtain rfl : n = 0 := by omega
   go_enter Tryd.func21, Tryd.ntmps21
   go_wp2
   go_ret
   exact ⟨rfl, Below.refl _ _⟩
 · have e0 : ((n : Int) == 0) = false := by rw [beq_eq_false_iff_ne]; omega
   by_cases h2 : 2000 < n
   · rw [goodT_long (by rw [← HN.out]; exact h2)] at hv
     subst hv
     have e2 : decide ((2000 : Int) < (n : Int)) = true := decide_eq_true (by omega)
     go_enter Tryd.func21, Tryd.ntmps21
     go_wp2
     go_ret
     exact ⟨rfl, Below.refl _ _⟩
   · have e2 : decide ((2000 : Int) < (n : Int)) = false := decide_eq_false (by omega)
     have HV := Lib.hid hv
     have hmk := made_int w n hn6
     have bw := below_new w (.cells (ints .i64 (List.replicate n 0)) 3)
     have HS0 := Lib.hid (nuR_new w n)
     clear hv
     go_enter Tryd.func21, Tryd.ntmps21
     go_wp2
     generalize w.alloc (.cells (ints .i64 (List.replicate n 0)) 3) = w1 at *
     obtain ⟨q, hq⟩ : ∃ g, g = w.heap.size := ⟨_, rfl⟩
     rw [← hq] at HS0 ⊢
     clear hmk
     have HQ : Hid (w.heap.size ≤ q) := by show _ ≤ _; omega
     clear hq
     have HB0 := Lib.hid bw
     clear bw
     go_loopw [21] (fun i wr => ∃ os : List Nat, i = .int .i64 (os.length : Int) ∧ os.length ≤ n ∧ Hid (begT (ts.take os.length) = some os) ∧ Hid (NuR wr q 3 os (n - os.length)) ∧ Hid (Below w.heap.size w wr)) (fun i _ => n - (intOf i).toNat)
     case atStart => exact ⟨[], rfl, Nat.zero_le _, rfl, HS0, HB0⟩
     case round =>
      obtain ⟨os, rfl, hk, HBe, HS, HB⟩ := hrel
      have hl6 : os.length ≤ 1000000 := by omega
      have HLow := Lib.hid (begT_low HBe.out)
      by_cases hlt : os.length < n
      · skip
        obtain ⟨x, hx⟩ : ∃ x, ts[os.length]? = some x := ⟨_, List.getElem?_eq_getElem (by rw [← HN.out]; exact hlt)⟩
        have HX := Lib.hid hx
        obtain ⟨g, og, rfl, hg, hin⟩ := (H.out.below HB.out).at hx
        obtain ⟨hxt, hxu⟩ := HM.out.at hx
        obtain ⟨kk, a, b, m, t, u, p⟩ := x
        dsimp only at hxt hxu
        have HI_x : Hid (InV wr g (og + os.length * 7) (ndC kk a b m t u p)) := hin
        have HM_x := Lib.hid (manyNd kk a b m t u p)
        have HU_x : Hid (Many Tryd.prog 37 (ndC kk a b m t u p).size ∧ zN.size = (ndC kk a b m t u p).size ∧ ∀ v ∈ ndC kk a b m t u p, v.oneCell' = true) := fitsNd ⟨kk, a, b, m, t, u, p⟩ zNd
        have hrx := rowA_new wr 37 (ndC kk a b m t u p)
        have bn := below_new wr (.cells (ndC kk a b m t u p) 37)
        have HSs := Lib.hid (HS.out.below bn)
        have HBs := Lib.hid (below_two HB.out bn)
        have Hqw := Lib.hid HS.out.lt
        clear hx hin bn HS HB hg
        go_wp2_with (first | (refine wpList_loadV (by rfl) _ _ (by rfl) _ _ (by rfl) _ (by assumption) (by assumption) ?_) | (refine wpList_storeNew (by rfl) _ _ _ (by rfl) _ _ _ (by rfl) (by rfl) (by assumption) ?_))
        generalize wr.alloc (.cells (ndC kk a b m t u p) 37) = wS at *
        obtain ⟨q5, hq5⟩ : ∃ g, g = wr.heap.size := ⟨_, rfl⟩
        rw [← hq5] at hrx ⊢
        clear hq5 HI_x HU_x Hqw
        cases hE : startN os ⟨kk, a, b, m, t, u, p⟩ with
        | none =>
         have HE := Lib.hid hE
         clear hE
         have HV0 : Hid (v = false) := by
          show _ = _
          rw [← HV.out]
          exact goodT_no (begT_fall HX.out HBe.out (by unfold stepB; rw [HE.out]; split <;> rfl))
         refine region_freed 6 4 6 [27, 28, 29, 30, 31, 26] ?aF6 (fun wx => Below wS.heap.size wS wx) (fun k vv wx => match k with
          | 0 => vv = .agg (ndC kk a b m t u p)
          | 1 => vv = .slice (some ⟨q, 0, none⟩) n n
          | 2 => vv = .int .i64 (os.length : Int)
          | 3 => vv = .slice (some ⟨q, 0, none⟩) os.length n
          | 4 => vv = .tuple #[.int .i64 0, .bool false]
          | _ => vv = .tuple #[.int .i64 0, .bool false])
          (fun k => false) (by kernel_rfl) ?haF6 rfl (by kernel_rfl) (by kernel_rfl) (fun _ _ _ _ _ h => h) ?hSb6 ?hPb6 ?hS6 ?hop6 ?hfin6
         case haF6 =>
          intro vals
          simp only [fillAll, List.getElem?_cons_zero, List.getElem?_cons_succ, Act.put, List.setIfInBounds_toArray, List.set_cons_zero, List.set_cons_succ]
          exact rfl
         case hSb6 => exact fun wx w2 hb hS => below_two hS hb
         case hPb6 =>
          intro k v wa wb hb h
          match k, h with
          | 0, h => exact h
          | 1, h => exact h
          | 2, h => exact h
          | 3, h => exact h
          | 4, h => exact h
          | _ + 5, h => exact h
         case hS6 => exact (Below.refl _ _).drew
         case hop6 =>
          refine .cons (k := 0) (.plain rfl ?_) (.cons (k := 1) (.plain rfl ?_) (.cons (k := 2) (.plain rfl ?_) (.cons (k := 3) (.plain rfl ?_) (.cons (k := 4) (.plain rfl ?_) (.cons (k := 5) (.plain rfl ?_) (.nil))))))
          all_goals intro vals wr hS hd KC hK
          all_goals (show Oper.wp _ _ _ _ _ _; dsimp only)
          · refine wp_loadV 37 _ rfl _ _ rfl (ndC kk a b m t u p) (Lib.hid (hrx.below hS).inV) (Lib.hid HM_x.out) ?_
            refine hK _ _ rfl (Below.refl _ _) (by first | rfl | simp) (fun h => by cases h)
          · go_simp
            refine hK _ _ rfl (Below.refl _ _) (by first | rfl | simp) (fun h => by cases h)
          · go_simp
            refine hK _ _ rfl (Below.refl _ _) (by first | rfl | simp) (fun h => by cases h)
          · have d1 : vals 1 = _ := hd 1 (by decide +kernel)
            have d2 : vals 2 = _ := hd 2 (by decide +kernel)
            rw [d1, d2]
            go_simp
            refine hK _ _ rfl (Below.refl _ _) (by first | rfl | simp) (fun h => by cases h)
          · have d0 : vals 0 = _ := hd 0 (by decide +kernel)
            have d3 : vals 3 = _ := hd 3 (by decide +kernel)
            rw [d0, d3]
            go_simp
            go_at_call 29
            with_reducible refine (tStart_no HLow.out hl6 (HSs.out.below hS) HE.out).mono ?_
            rintro e w2 ⟨rfl, bn_r⟩
            refine hK _ _ rfl bn_r rfl (fun h => by cases h)
          · have d4 : vals 4 = _ := hd 4 (by decide +kernel)
            rw [d4]
            go_simp
            refine hK _ _ rfl (Below.refl _ _) (by first | rfl | simp) (fun h => by cases h)
         case hfin6 =>
          intro vals wr hS hP hne
          have ez_5 : vals 5 = _ := hP 5 (by decide)
          try dsimp only
          rw [ez_5]
          refine wpAny_take (i := 6) rfl (by kernel_rfl) (by kernel_rfl) (by kernel_rfl) (fun _ _ _ h => h) (.inl ⟨rfl, fun _ => rfl⟩) ?_
          simp only [Act.put, List.setIfInBounds_toArray]
          refine wpAny_take (i := 8) rfl (by kernel_rfl) (by kernel_rfl) (by kernel_rfl) (fun _ _ _ h => h) (.inl ⟨rfl, fun _ => rfl⟩) ?_
          simp only [Act.put]
          refine wpAny_take (i := 7) rfl (by kernel_rfl) (by kernel_rfl) (by kernel_rfl) (fun _ _ _ h => h) (.inl ⟨rfl, fun _ => rfl⟩) ?_
          simp only [Act.put]
          refine wpAny_take (i := 9) rfl (by kernel_rfl) (by kernel_rfl) (by kernel_rfl) (fun _ _ _ h => h) (.inl ⟨rfl, fun _ => rfl⟩) ?_
          simp only [Act.put]
          refine wpAny_done (by kernel_rfl) ?_ _
          have HF := Lib.hid (below_two HBs.out hS)
          clear hS hP hne
          go_wp2
          go_ret
          exact ⟨by rw [HV0.out]; rfl, HF.out⟩
        | some s =>
         have HE := Lib.hid hE
         clear hE
         cases hG : fitsN ⟨kk, a, b, m, t, u, p⟩
         · skip
           have HG := Lib.hid hG
           clear hG
           refine region_freed 6 4 6 [27, 28, 29, 30, 31, 26] ?aF7 (fun wx => Below wS.heap.size wS wx) (fun k vv wx => match k with
            | 0 => vv = .agg (ndC kk a b m t u p)
            | 1 => vv = .slice (some ⟨q, 0, none⟩) n n
            | 2 => vv = .int .i64 (os.length : Int)
            | 3 => vv = .slice (some ⟨q, 0, none⟩) os.length n
            | 4 => vv = .tuple #[.int .i64 (s : Int), .bool true]
            | _ => vv = .tuple #[.int .i64 (s : Int), .bool true])
            (fun k => false) (by kernel_rfl) ?haF7 rfl (by kernel_rfl) (by kernel_rfl) (fun _ _ _ _ _ h => h) ?hSb7 ?hPb7 ?hS7 ?hop7 ?hfin7
           case haF7 =>
            intro vals
            simp only [fillAll, List.getElem?_cons_zero, List.getElem?_cons_succ, Act.put, List.setIfInBounds_toArray, List.set_cons_zero, List.set_cons_succ]
            exact rfl
           case hSb7 => exact fun wx w2 hb hS => below_two hS hb
           case hPb7 =>
            intro k v wa wb hb h
            match k, h with
            | 0, h => exact h
            | 1, h => exact h
            | 2, h => exact h
            | 3, h => exact h
            | 4, h => exact h
            | _ + 5, h => exact h
           case hS7 => exact (Below.refl _ _).drew
           case hop7 =>
            refine .cons (k := 0) (.plain rfl ?_) (.cons (k := 1) (.plain rfl ?_) (.cons (k := 2) (.plain rfl ?_) (.cons (k := 3) (.plain rfl ?_) (.cons (k := 4) (.plain rfl ?_) (.cons (k := 5) (.plain rfl ?_) (.nil))))))
            all_goals intro vals wr hS hd KC hK
            all_goals (show Oper.wp _ _ _ _ _ _; dsimp only)
            · refine wp_loadV 37 _ rfl _ _ rfl (ndC kk a b m t u p) (Lib.hid (hrx.below hS).inV) (Lib.hid HM_x.out) ?_
              refine hK _ _ rfl (Below.refl _ _) (by first | rfl | simp) (fun h => by cases h)
            · go_simp
              refine hK _ _ rfl (Below.refl _ _) (by first | rfl | simp) (fun h => by cases h)
            · go_simp
              refine hK _ _ rfl (Below.refl _ _) (by first | rfl | simp) (fun h => by cases h)
            · have d1 : vals 1 = _ := hd 1 (by decide +kernel)
              have d2 : vals 2 = _ := hd 2 (by decide +kernel)
              rw [d1, d2]
              go_simp
              refine hK _ _ rfl (Below.refl _ _) (by first | rfl | simp) (fun h => by cases h)
            · have d0 : vals 0 = _ := hd 0 (by decide +kernel)
              have d3 : vals 3 = _ := hd 3 (by decide +kernel)
              rw [d0, d3]
              go_simp
              go_at_call 29
              with_reducible refine (tStart_yes HLow.out hl6 (HSs.out.below hS) HE.out).mono ?_
              rintro e w2 ⟨rfl, bn_r⟩
              refine hK _ _ rfl bn_r rfl (fun h => by cases h)
            · have d4 : vals 4 = _ := hd 4 (by decide +kernel)
              rw [d4]
              go_simp
              refine hK _ _ rfl (Below.refl _ _) (by first | rfl | simp) (fun h => by cases h)
           case hfin7 =>
            intro vals wr hS hP hne
            have ez_5 : vals 5 = _ := hP 5 (by decide)
            try dsimp only
            rw [ez_5]
            refine wpAny_take (i := 6) rfl (by kernel_rfl) (by kernel_rfl) (by kernel_rfl) (fun _ _ _ h => h) (.inl ⟨rfl, fun _ => rfl⟩) ?_
            simp only [Act.put, List.setIfInBounds_toArray]
            refine wpAny_take (i := 8) rfl (by kernel_rfl) (by kernel_rfl) (by kernel_rfl) (fun _ _ _ h => h) (.inl ⟨rfl, fun _ => rfl⟩) ?_
            simp only [Act.put]
            refine wpAny_take (i := 7) rfl (by kernel_rfl) (by kernel_rfl) (by kernel_rfl) (fun _ _ _ h => h) (.inl ⟨rfl, fun _ => rfl⟩) ?_
            simp only [Act.put]
            refine wpAny_take (i := 9) rfl (by kernel_rfl) (by kernel_rfl) (by kernel_rfl) (fun _ _ _ h => h) (.inl ⟨rfl, fun _ => rfl⟩) ?_
            simp only [Act.put]
            refine wpAny_done (by kernel_rfl) ?_ _
            have hr2 := hrx.below hS
            have HI_y := Lib.hid hr2.inV
            have HS2 := Lib.hid (HSs.out.below hS)
            have HF := Lib.hid (below_two HBs.out hS)
            clear hS hP hne HSs HBs hrx
            generalize wr = w2 at *
            go_wp2_with (refine wpList_loadV (by rfl) _ _ (by rfl) _ _ (by rfl) _ (by assumption) (by assumption) ?_)
            refine (tFits_c kk a b m t u p hxt hxu _ (HT.out.below HF.out) false HG.out).mono ?_
            rintro e w3 ⟨rfl, bn⟩
            have HF2 := Lib.hid (below_two HF.out bn)
            clear bn
            have HV0 : Hid (v = false) := by
             show _ = _
             rw [← HV.out]
             exact goodT_no (begT_fall HX.out HBe.out (by unfold stepB; rw [HG.out]; rfl))
            go_wp2
            go_ret
            exact ⟨by rw [HV0.out]; rfl, HF2.out⟩
         · skip
           have HG := Lib.hid hG
           clear hG
           refine region_freed 6 4 6 [27, 28, 29, 30, 31, 26] ?aF8 (fun wx => Below wS.heap.size wS wx) (fun k vv wx => match k with
            | 0 => vv = .agg (ndC kk a b m t u p)
            | 1 => vv = .slice (some ⟨q, 0, none⟩) n n
            | 2 => vv = .int .i64 (os.length : Int)
            | 3 => vv = .slice (some ⟨q, 0, none⟩) os.length n
            | 4 => vv = .tuple #[.int .i64 (s : Int), .bool true]
            | _ => vv = .tuple #[.int .i64 (s : Int), .bool true])
            (fun k => false) (by kernel_rfl) ?haF8 rfl (by kernel_rfl) (by kernel_rfl) (fun _ _ _ _ _ h => h) ?hSb8 ?hPb8 ?hS8 ?hop8 ?hfin8
           case haF8 =>
            intro vals
            simp only [fillAll, List.getElem?_cons_zero, List.getElem?_cons_succ, Act.put, List.setIfInBounds_toArray, List.set_cons_zero, List.set_cons_succ]
            exact rfl
           case hSb8 => exact fun wx w2 hb hS => below_two hS hb
           case hPb8 =>
            intro k v wa wb hb h
            match k, h with
            | 0, h => exact h
            | 1, h => exact h
            | 2, h => exact h
            | 3, h => exact h
            | 4, h => exact h
            | _ + 5, h => exact h
           case hS8 => exact (Below.refl _ _).drew
           case hop8 =>
            refine .cons (k := 0) (.plain rfl ?_) (.cons (k := 1) (.plain rfl ?_) (.cons (k := 2) (.plain rfl ?_) (.cons (k := 3) (.plain rfl ?_) (.cons (k := 4) (.plain rfl ?_) (.cons (k := 5) (.plain rfl ?_) (.nil))))))
            all_goals intro vals wr hS hd KC hK
            all_goals (show Oper.wp _ _ _ _ _ _; dsimp only)
            · refine wp_loadV 37 _ rfl _ _ rfl (ndC kk a b m t u p) (Lib.hid (hrx.below hS).inV) (Lib.hid HM_x.out) ?_
              refine hK _ _ rfl (Below.refl _ _) (by first | rfl | simp) (fun h => by cases h)
            · go_simp
              refine hK _ _ rfl (Below.refl _ _) (by first | rfl | simp) (fun h => by cases h)
            · go_simp
              refine hK _ _ rfl (Below.refl _ _) (by first | rfl | simp) (fun h => by cases h)
            · have d1 : vals 1 = _ := hd 1 (by decide +kernel)
              have d2 : vals 2 = _ := hd 2 (by decide +kernel)
              rw [d1, d2]
              go_simp
              refine hK _ _ rfl (Below.refl _ _) (by first | rfl | simp) (fun h => by cases h)
            · have d0 : vals 0 = _ := hd 0 (by decide +kernel)
              have d3 : vals 3 = _ := hd 3 (by decide +kernel)
              rw [d0, d3]
              go_simp
              go_at_call 29
              with_reducible refine (tStart_yes HLow.out hl6 (HSs.out.below hS) HE.out).mono ?_
              rintro e w2 ⟨rfl, bn_r⟩
              refine hK _ _ rfl bn_r rfl (fun h => by cases h)
            · have d4 : vals 4 = _ := hd 4 (by decide +kernel)
              rw [d4]
              go_simp
              refine hK _ _ rfl (Below.refl _ _) (by first | rfl | simp) (fun h => by cases h)
           case hfin8 =>
            intro vals wr hS hP hne
            have ez_5 : vals 5 = _ := hP 5 (by decide)
            try dsimp only
            rw [ez_5]
            refine wpAny_take (i := 6) rfl (by kernel_rfl) (by kernel_rfl) (by kernel_rfl) (fun _ _ _ h => h) (.inl ⟨rfl, fun _ => rfl⟩) ?_
            simp only [Act.put, List.setIfInBounds_toArray]
            refine wpAny_take (i := 8) rfl (by kernel_rfl) (by kernel_rfl) (by kernel_rfl) (fun _ _ _ h => h) (.inl ⟨rfl, fun _ => rfl⟩) ?_
            simp only [Act.put]
            refine wpAny_take (i := 7) rfl (by kernel_rfl) (by kernel_rfl) (by kernel_rfl) (fun _ _ _ h => h) (.inl ⟨rfl, fun _ => rfl⟩) ?_
            simp only [Act.put]
            refine wpAny_take (i := 9) rfl (by kernel_rfl) (by kernel_rfl) (by kernel_rfl) (fun _ _ _ h => h) (.inl ⟨rfl, fun _ => rfl⟩) ?_
            simp only [Act.put]
            refine wpAny_done (by kernel_rfl) ?_ _
            have hr2 := hrx.below hS
            have HI_y := Lib.hid hr2.inV
            have HS2 := Lib.hid (HSs.out.below hS)
            have HF := Lib.hid (below_two HBs.out hS)
            clear hS hP hne HSs HBs hrx
            generalize wr = w2 at *
            go_wp2_with (refine wpList_loadV (by rfl) _ _ (by rfl) _ _ (by rfl) _ (by assumption) (by assumption) ?_)
            refine (tFits_c kk a b m t u p hxt hxu _ (HT.out.below HF.out) true HG.out).mono ?_
            rintro e w3 ⟨rfl, bn⟩
            have HF2 := Lib.hid (below_two HF.out bn)
            have HS3 := Lib.hid (HS2.out.below bn)
            obtain ⟨j, hj⟩ : ∃ j, n - os.length = j + 1 := ⟨n - os.length - 1, by omega⟩
            rw [hj] at HS3
            obtain ⟨z, c1, f1⟩ := HS3.out.room
            have HS4 := Lib.hid (HS3.out.store s)
            have HB4 := Lib.hid (below_set HF2.out HQ.out os.length (.int .i64 (s : Int)))
            have HBn := Lib.hid (begT_next HX.out HBe.out (by unfold stepB; rw [HG.out]; exact HE.out))
            clear bn HS2 HF HF2
            go_wp2
            go_roundw
            case rel => exact ⟨os ++ [s], by rw [List.length_append]; first | rfl | (go_num), by rw [List.length_append]; exact hlt, by show _ = _; rw [List.length_append]; exact HBn.out, by show NuR _ _ _ _ _; rw [List.length_append, List.length_singleton, show n - (os.length + 1) = j by omega]; exact HS4.out, HB4⟩
            case measure => simp [intOf]; omega
      · skip
        obtain rfl : n = os.length := by omega
        have HBf : Hid (begT ts = some os) := by have h := HBe.out; rw [HN.out, List.take_length] at h; exact h
        obtain ⟨j, hj⟩ : ∃ j, os.length = j + 1 := ⟨os.length - 1, by omega⟩
        have cl := HS.out.cell (j := j) (by omega)
        have hv2 : v = decide (os.getD j 0 = 0) := by
         rw [← HV.out, goodT_of HBf.out (by rw [← HN.out]; omega) (by rw [← HN.out]; omega), ← HN.out, hj, Nat.add_sub_cancel]
         congr 2
         rw [List.getD_eq_getElem?_getD, List.getD_eq_getElem?_getD, List.getElem?_eq_getElem (by omega)]
         rfl
        obtain ⟨z, hz⟩ : ∃ z, os.getD j 0 = z := ⟨_, rfl⟩
        rw [hz] at cl hv2
        have ez : ((z : Int) == 0) = v := by rw [hv2, Bool.eq_iff_iff, beq_iff_eq, decide_eq_true_eq]; omega
        clear hz hv2 HS HBe
        have hw1 : (os.length : Int) - 1 = (j : Int) := by omega
        have hjl : (j : Int) < (os.length : Int) := by omega
        go_wp2
        go_ret
        exact ⟨rfl, HB.out⟩
end Go.Proofs.YtbddhflmknaadaaDoor
