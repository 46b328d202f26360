/- Part 10 of the texts that the statements of this seat lean on: mathematics, and what functions answer, as contracts over memory; each part says its own conditions. -/
import Derived.Test.YtannifhcjcbkcaaGreatDoorMB9
set_option linter.unusedVariables false
set_option maxHeartbeats 8000000
namespace Go.Proofs.YtannifhcjcbkcaaGreatDoor
open Go.RowKit Limb
open Lib (hid)
section
variable {w : World} {B q en : Nat} {L : Lim} {st : St}
def isW (k : Nat) (t : List Nat) (j : Nat) : Bool := decide (k = 1) && decide (t = xjk j)
theorem yv7 {k a j : Nat} {t : List Nat} (hj : j < 6) (h : isW k t j = true) : xve (k, t, a) = j := by
 unfold isW at h;simp only [Bool.and_eq_true, decide_eq_true_eq] at h;obtain ⟨rfl, rfl⟩ := h
 match j, hj with
 | 0, _ => rfl
 | 1, _ => rfl
 | 2, _ => rfl
 | 3, _ => rfl
 | 4, _ => rfl
 | 5, _ => rfl
theorem kind_no {k a : Nat} {t : List Nat} (h : ∀ j, j < 6 → isW k t j = false) : xve (k, t, a) = 0 := by
 have key : ∀ j, 1 ≤ j → j < 6 → isT 1 (xjk j) (k, t, a) = false := fun j h1 h2 => by
  have := h j h2;have hne : (xjk j).isEmpty = false := by
   match j, h1, h2 with
   | 1, _, _ => rfl
   | 2, _, _ => rfl
   | 3, _, _ => rfl
   | 4, _, _ => rfl
   | 5, _, _ => rfl
  unfold isT;rw [hne, Bool.false_or];exact this
 unfold xve xvz;rw [if_neg (by rw [show isT 1 [117, 110, 105, 116] (k, t, a) = false from key 1 (by decide) (by decide)]; decide), if_neg (by rw [show isT 1 [115, 111, 117, 114, 99, 101] (k, t, a) = false from key 2 (by decide) (by decide)]; decide), if_neg (by rw [show isT 1 [99, 111, 118] (k, t, a) = false from key 3 (by decide) (by decide)]; decide), if_neg (by rw [show isT 1 [108, 101, 116] (k, t, a) = false from key 4 (by decide) (by decide)]; decide), if_neg (by rw [show isT 1 [111, 117, 116, 112, 117, 116] (k, t, a) = false from key 5 (by decide) (by decide)]; decide)];rfl
theorem xjm (j : Nat) : Bytes (xjk j) := by
 intro x hx;unfold xjk at hx
 split at hx
 · revert x; decide
 · split at hx
   · revert x; decide
   · split at hx
     · revert x; decide
     · split at hx
       · revert x; decide
       · split at hx
         · revert x; decide
         · cases hx
def wordsV : Array Value := #[.string (strOf (xjk 0)), .string (strOf (xjk 1)), .string (strOf (xjk 2)), .string (strOf (xjk 3)), .string (strOf (xjk 4)), .string (strOf (xjk 5))]
theorem words_in {w : World} (h : WTab w) : InV w 0 0 wordsV := fun j v hv => by
 rw [Nat.zero_add];have hj : j < 6 := by
  rcases Nat.lt_or_ge j 6 with h | h
  · exact h
  · rw [Array.getElem?_eq_none (by exact h)] at hv; cases hv
 have := h j hj
 match j, hj, hv with
 | 0, _, hv => cases hv; exact this
 | 1, _, hv => cases hv; exact this
 | 2, _, hv => cases hv; exact this
 | 3, _, hv => cases hv; exact this
 | 4, _, hv => cases hv; exact this
 | 5, _, hv => cases hv; exact this
theorem sizeW : (Tryz.prog.info? 141).map (·.size) = some 6 := by kernel_rfl
theorem manyW : xq7 Tryz.prog 141 wordsV.size := ⟨sizeW, _, Tryz.underlying141, rfl⟩
set_option maxRecDepth 100000 in
theorem pKindOf_c (k a : Nat) (t : List Nat) (ht : Bytes t) (w : World) (T : WTab w) :
 Calls Tryz.prog 73 #[.agg #[.int .i64 (k : Int), .string (strOf t), .int .i64 (a : Int)]] w fun x w' => x = .returned (.int .i64 (xve (k, t, a) : Nat)) ∧ Below w.heap.size w w' := by
 have bn := xqc w (.cells #[.int .i64 (k : Int), .string (strOf t), .int .i64 (a : Int)] 109);have HX0 := hid (xqd w 109 #[.int .i64 (k : Int), .string (strOf t), .int .i64 (a : Int)]);have HB0 := hid bn;have HW := hid (words_in (w := w.alloc (.cells #[.int .i64 (k : Int), .string (strOf t), .int .i64 (a : Int)] 109)) (fun i hi => (bn.cell (p := ⟨0, i, none⟩) (xzb (T i hi))).trans (T i hi)));have HMW := hid manyW;have HMT := hid (manyTk (k : Int) (strOf t) (a : Int));have Ht := hid ht;clear bn T ht;go_enter Tryz.func73, Tryz.ntmps73;go_wp2_with (refine xqf (by rfl) _ _ (by rfl) _ _ (by rfl) _ (by assumption) (by assumption) ?_);obtain ⟨gb, hgb⟩ : ∃ g, g = w.heap.size := ⟨_, rfl⟩;rw [← hgb] at HX0 ⊢;clear hgb;generalize w.alloc (.cells #[.int .i64 (k : Int), .string (strOf t), .int .i64 (a : Int)] 109) = w1 at *
 go_loopw [6] (fun iv wr => ∃ i : Nat, iv = .int .i64 (i : Int) ∧ i ≤ 6 ∧ Hid (∀ j, j < i → isW k t j = false) ∧ Hid (Below w.heap.size w wr) ∧ Hid (RowA wr gb 109 #[.int .i64 (k : Int), .string (strOf t), .int .i64 (a : Int)])) (fun iv _ => 6 - (intOf iv).toNat)
 case atStart => exact ⟨0, rfl, by decide, fun j hj => absurd hj (Nat.not_lt_zero _), HB0, HX0⟩
 case round =>
  clear HB0 HX0 HW;obtain ⟨i, rfl, hi, HN, HB, HX⟩ := hrel;have HI := hid HX.out.inV
  skip
  by_cases h6 : i = 6
  · subst h6;have hk : Hid (xve (k, t, a) = 0) := kind_no HN.out;go_wp2
    go_ret
    exact ⟨by rw [hk.out]; rfl, HB.out⟩
  · have h7 : i = 0 ∨ i = 1 ∨ i = 2 ∨ i = 3 ∨ i = 4 ∨ i = 5 := by omega
    clear h6 hi;rcases h7 with rfl | rfl | rfl | rfl | rfl | rfl
    · cases hv : isW k t 0 with
      | true =>
       have Hv : Hid ((decide (k = 1) && decide (t = xjk 0)) = true) := hv;have hk : Hid (xve (k, t, a) = 0) := yv7 (by decide) hv;clear hv;have hix : ∀ W, (Instr.index 141 (.agg wordsV) (.int .i64 0)).run Tryz.prog W = .ok (.string (strOf (xjk 0))) W := fun W => by kernel_rfl
       go_wp2_with (refine xqf (by rfl) _ _ (by rfl) _ _ (by rfl) _ (by assumption) (by assumption) ?_);refine (xj3 k a t (xjk 0) Ht.out (xjm 0) _ Hv.out).mono ?_;rintro e w2 ⟨rfl, bn⟩;have HB2 := hid (xqa HB.out bn);have HX2 := hid (HX.out.below bn);clear bn;go_wp2
       refine bodyPost_ret (results_tmp rfl _ _ _) rfl ?_;exact ⟨by rw [hk.out]; rfl, HB2.out⟩
      | false =>
       have Hv : Hid ((decide (k = 1) && decide (t = xjk 0)) = false) := hv;have HN2 : Hid (∀ j, j < 1 → isW k t j = false) := fun j hj => (Nat.lt_succ_iff_lt_or_eq.1 hj).elim (HN.out j) (fun e => by rw [e]; exact hv)
       clear hv;have hix : ∀ W, (Instr.index 141 (.agg wordsV) (.int .i64 0)).run Tryz.prog W = .ok (.string (strOf (xjk 0))) W := fun W => by kernel_rfl
       go_wp2_with (refine xqf (by rfl) _ _ (by rfl) _ _ (by rfl) _ (by assumption) (by assumption) ?_);refine (xj3 k a t (xjk 0) Ht.out (xjm 0) _ Hv.out).mono ?_;rintro e w2 ⟨rfl, bn⟩;have HB2 := hid (xqa HB.out bn);have HX2 := hid (HX.out.below bn);clear bn;go_wp2
       go_roundw
       case rel => exact ⟨1, by go_num, by decide, HN2, HB2, HX2⟩
       case measure => simp [intOf]
    · cases hv : isW k t 1 with
      | true =>
       have Hv : Hid ((decide (k = 1) && decide (t = xjk 1)) = true) := hv;have hk : Hid (xve (k, t, a) = 1) := yv7 (by decide) hv;clear hv;have hix : ∀ W, (Instr.index 141 (.agg wordsV) (.int .i64 1)).run Tryz.prog W = .ok (.string (strOf (xjk 1))) W := fun W => by kernel_rfl
       go_wp2_with (refine xqf (by rfl) _ _ (by rfl) _ _ (by rfl) _ (by assumption) (by assumption) ?_);refine (xj3 k a t (xjk 1) Ht.out (xjm 1) _ Hv.out).mono ?_;rintro e w2 ⟨rfl, bn⟩;have HB2 := hid (xqa HB.out bn);have HX2 := hid (HX.out.below bn);clear bn;go_wp2
       refine bodyPost_ret (results_tmp rfl _ _ _) rfl ?_;exact ⟨by rw [hk.out]; rfl, HB2.out⟩
      | false =>
       have Hv : Hid ((decide (k = 1) && decide (t = xjk 1)) = false) := hv;have HN2 : Hid (∀ j, j < 2 → isW k t j = false) := fun j hj => (Nat.lt_succ_iff_lt_or_eq.1 hj).elim (HN.out j) (fun e => by rw [e]; exact hv)
       clear hv;have hix : ∀ W, (Instr.index 141 (.agg wordsV) (.int .i64 1)).run Tryz.prog W = .ok (.string (strOf (xjk 1))) W := fun W => by kernel_rfl
       go_wp2_with (refine xqf (by rfl) _ _ (by rfl) _ _ (by rfl) _ (by assumption) (by assumption) ?_);refine (xj3 k a t (xjk 1) Ht.out (xjm 1) _ Hv.out).mono ?_;rintro e w2 ⟨rfl, bn⟩;have HB2 := hid (xqa HB.out bn);have HX2 := hid (HX.out.below bn);clear bn;go_wp2
       go_roundw
       case rel => exact ⟨2, by go_num, by decide, HN2, HB2, HX2⟩
       case measure => simp [intOf]
    · cases hv : isW k t 2 with
      | true =>
       have Hv : Hid ((decide (k = 1) && decide (t = xjk 2)) = true) := hv;have hk : Hid (xve (k, t, a) = 2) := yv7 (by decide) hv;clear hv;have hix : ∀ W, (Instr.index 141 (.agg wordsV) (.int .i64 2)).run Tryz.prog W = .ok (.string (strOf (xjk 2))) W := fun W => by kernel_rfl
       go_wp2_with (refine xqf (by rfl) _ _ (by rfl) _ _ (by rfl) _ (by assumption) (by assumption) ?_);refine (xj3 k a t (xjk 2) Ht.out (xjm 2) _ Hv.out).mono ?_;rintro e w2 ⟨rfl, bn⟩;have HB2 := hid (xqa HB.out bn);have HX2 := hid (HX.out.below bn);clear bn;go_wp2
       refine bodyPost_ret (results_tmp rfl _ _ _) rfl ?_;exact ⟨by rw [hk.out]; rfl, HB2.out⟩
      | false =>
       have Hv : Hid ((decide (k = 1) && decide (t = xjk 2)) = false) := hv;have HN2 : Hid (∀ j, j < 3 → isW k t j = false) := fun j hj => (Nat.lt_succ_iff_lt_or_eq.1 hj).elim (HN.out j) (fun e => by rw [e]; exact hv)
       clear hv;have hix : ∀ W, (Instr.index 141 (.agg wordsV) (.int .i64 2)).run Tryz.prog W = .ok (.string (strOf (xjk 2))) W := fun W => by kernel_rfl
       go_wp2_with (refine xqf (by rfl) _ _ (by rfl) _ _ (by rfl) _ (by assumption) (by assumption) ?_);refine (xj3 k a t (xjk 2) Ht.out (xjm 2) _ Hv.out).mono ?_;rintro e w2 ⟨rfl, bn⟩;have HB2 := hid (xqa HB.out bn);have HX2 := hid (HX.out.below bn);clear bn;go_wp2
       go_roundw
       case rel => exact ⟨3, by go_num, by decide, HN2, HB2, HX2⟩
       case measure => simp [intOf]
    · cases hv : isW k t 3 with
      | true =>
       have Hv : Hid ((decide (k = 1) && decide (t = xjk 3)) = true) := hv;have hk : Hid (xve (k, t, a) = 3) := yv7 (by decide) hv;clear hv;have hix : ∀ W, (Instr.index 141 (.agg wordsV) (.int .i64 3)).run Tryz.prog W = .ok (.string (strOf (xjk 3))) W := fun W => by kernel_rfl
       go_wp2_with (refine xqf (by rfl) _ _ (by rfl) _ _ (by rfl) _ (by assumption) (by assumption) ?_);refine (xj3 k a t (xjk 3) Ht.out (xjm 3) _ Hv.out).mono ?_;rintro e w2 ⟨rfl, bn⟩;have HB2 := hid (xqa HB.out bn);have HX2 := hid (HX.out.below bn);clear bn;go_wp2
       refine bodyPost_ret (results_tmp rfl _ _ _) rfl ?_;exact ⟨by rw [hk.out]; rfl, HB2.out⟩
      | false =>
       have Hv : Hid ((decide (k = 1) && decide (t = xjk 3)) = false) := hv;have HN2 : Hid (∀ j, j < 4 → isW k t j = false) := fun j hj => (Nat.lt_succ_iff_lt_or_eq.1 hj).elim (HN.out j) (fun e => by rw [e]; exact hv)
       clear hv;have hix : ∀ W, (Instr.index 141 (.agg wordsV) (.int .i64 3)).run Tryz.prog W = .ok (.string (strOf (xjk 3))) W := fun W => by kernel_rfl
       go_wp2_with (refine xqf (by rfl) _ _ (by rfl) _ _ (by rfl) _ (by assumption) (by assumption) ?_);refine (xj3 k a t (xjk 3) Ht.out (xjm 3) _ Hv.out).mono ?_;rintro e w2 ⟨rfl, bn⟩;have HB2 := hid (xqa HB.out bn);have HX2 := hid (HX.out.below bn);clear bn;go_wp2
       go_roundw
       case rel => exact ⟨4, by go_num, by decide, HN2, HB2, HX2⟩
       case measure => simp [intOf]
    · cases hv : isW k t 4 with
      | true =>
       have Hv : Hid ((decide (k = 1) && decide (t = xjk 4)) = true) := hv;have hk : Hid (xve (k, t, a) = 4) := yv7 (by decide) hv;clear hv;have hix : ∀ W, (Instr.index 141 (.agg wordsV) (.int .i64 4)).run Tryz.prog W = .ok (.string (strOf (xjk 4))) W := fun W => by kernel_rfl
       go_wp2_with (refine xqf (by rfl) _ _ (by rfl) _ _ (by rfl) _ (by assumption) (by assumption) ?_);refine (xj3 k a t (xjk 4) Ht.out (xjm 4) _ Hv.out).mono ?_;rintro e w2 ⟨rfl, bn⟩;have HB2 := hid (xqa HB.out bn);have HX2 := hid (HX.out.below bn);clear bn;go_wp2
       refine bodyPost_ret (results_tmp rfl _ _ _) rfl ?_;exact ⟨by rw [hk.out]; rfl, HB2.out⟩
      | false =>
       have Hv : Hid ((decide (k = 1) && decide (t = xjk 4)) = false) := hv;have HN2 : Hid (∀ j, j < 5 → isW k t j = false) := fun j hj => (Nat.lt_succ_iff_lt_or_eq.1 hj).elim (HN.out j) (fun e => by rw [e]; exact hv)
       clear hv;have hix : ∀ W, (Instr.index 141 (.agg wordsV) (.int .i64 4)).run Tryz.prog W = .ok (.string (strOf (xjk 4))) W := fun W => by kernel_rfl
       go_wp2_with (refine xqf (by rfl) _ _ (by rfl) _ _ (by rfl) _ (by assumption) (by assumption) ?_);refine (xj3 k a t (xjk 4) Ht.out (xjm 4) _ Hv.out).mono ?_;rintro e w2 ⟨rfl, bn⟩;have HB2 := hid (xqa HB.out bn);have HX2 := hid (HX.out.below bn);clear bn;go_wp2
       go_roundw
       case rel => exact ⟨5, by go_num, by decide, HN2, HB2, HX2⟩
       case measure => simp [intOf]
    · cases hv : isW k t 5 with
      | true =>
       have Hv : Hid ((decide (k = 1) && decide (t = xjk 5)) = true) := hv;have hk : Hid (xve (k, t, a) = 5) := yv7 (by decide) hv;clear hv;have hix : ∀ W, (Instr.index 141 (.agg wordsV) (.int .i64 5)).run Tryz.prog W = .ok (.string (strOf (xjk 5))) W := fun W => by kernel_rfl
       go_wp2_with (refine xqf (by rfl) _ _ (by rfl) _ _ (by rfl) _ (by assumption) (by assumption) ?_);refine (xj3 k a t (xjk 5) Ht.out (xjm 5) _ Hv.out).mono ?_;rintro e w2 ⟨rfl, bn⟩;have HB2 := hid (xqa HB.out bn);have HX2 := hid (HX.out.below bn);clear bn;go_wp2
       refine bodyPost_ret (results_tmp rfl _ _ _) rfl ?_;exact ⟨by rw [hk.out]; rfl, HB2.out⟩
      | false =>
       have Hv : Hid ((decide (k = 1) && decide (t = xjk 5)) = false) := hv;have HN2 : Hid (∀ j, j < 6 → isW k t j = false) := fun j hj => (Nat.lt_succ_iff_lt_or_eq.1 hj).elim (HN.out j) (fun e => by rw [e]; exact hv)
       clear hv;have hix : ∀ W, (Instr.index 141 (.agg wordsV) (.int .i64 5)).run Tryz.prog W = .ok (.string (strOf (xjk 5))) W := fun W => by kernel_rfl
       go_wp2_with (refine xqf (by rfl) _ _ (by rfl) _ _ (by rfl) _ (by assumption) (by assumption) ?_);refine (xj3 k a t (xjk 5) Ht.out (xjm 5) _ Hv.out).mono ?_;rintro e w2 ⟨rfl, bn⟩;have HB2 := hid (xqa HB.out bn);have HX2 := hid (HX.out.below bn);clear bn;go_wp2
       go_roundw
       case rel => exact ⟨6, by go_num, by decide, HN2, HB2, HX2⟩
       case measure => simp [intOf]
end
section
variable {w : World} {B q en : Nat} {L : Lim} {st : St}
theorem E_fail {e p : Int} {st : St} (h : (xjp e p st).E = 0) : st.E = 0 := by
 unfold xjp at h
 split at h
 · assumption
 · exact h
theorem E_need {en : Nat} {b : Bool} {st : St} (h : (xv3 en b st).E = 0) : st.E = 0 := by
 unfold xv3 at h
 split at h
 · exact h
 · exact E_fail h
theorem E_tak {en kd : Nat} {st : St} (h : (xwp en kd st).E = 0) : st.E = 0 := E_need (b := decide ((pkS st).1 = kd)) (en := en) h
theorem E_sgn {en : Nat} {tx : List Nat} {st : St} (h : (xvi en tx st).E = 0) : st.E = 0 := E_need (b := xqp 3 tx st.l) (en := en) h
theorem E_sml {en k most : Nat} {st : St} (h : (yqp en k most st).E = 0) : st.E = 0 := by
 unfold yqp smlP at h
 split at h
 · exact E_fail h
 · split at h
   · exact E_fail h
   · exact h
theorem E_out1 {en : Nat} {s : St} (h : (out1 en s).E = 0) : s.E = 0 := by
 unfold out1 at h
 split at h
 · exact E_tak (st := rdS s) h
 · exact h
structure Gd (q gd : Nat) (w w' : World) : Prop where
 os : w'.os = w.os
 tape : w'.tape = w.tape
 output : w'.output = w.output
 size : w.heap.size ≤ w'.heap.size
 block : ∀ i, i < w.heap.size → i ≠ q → i ≠ gd → w'.heap[i]? = w.heap[i]?
theorem Gd.of {q gd : Nat} {w w' : World} (h : w.grownBy w' (some q)) : Gd q gd w w' := ⟨h.os, h.tape, h.output, h.size, fun i hi h1 _ => h.block i hi (fun e => h1 (by injection e))⟩
theorem Gd.set (q gd : Nat) (w : World) (k : Nat) (v : Value) : Gd q gd w (w.setCell ⟨gd, k, none⟩ v) :=
 ⟨rfl, rfl, rfl, by simp, fun i hi _ h2 => Below.heap_setCell w _ v i (fun e => h2 e)⟩
theorem Gd.trans {q gd : Nat} {a b c : World} (h : Gd q gd a b) (k : Gd q gd b c) : Gd q gd a c :=
 ⟨k.os.trans h.os, k.tape.trans h.tape, k.output.trans h.output, Nat.le_trans h.size k.size, fun i hi h1 h2 => (k.block i (Nat.lt_of_lt_of_le hi h.size) h1 h2).trans (h.block i hi h1 h2)⟩
theorem RdW.setD (h : RdW w B q en L st) {g : Nat} {U : Array Value} (hr : RowA w g 62 U) (hqg : q < g) (k : Nat) (v : Value) : RdW (w.setCell ⟨g, k, none⟩ v) B q en L st := by
 obtain ⟨A, n, c, C, m, d, ts, h1, h2, h3, h4, h5, h6, h7, h9⟩ := h;have hg := xqs w g k v;have ho := h3.2.differ hr (by decide);refine ⟨A, n, c, C, m, d, ts, h1.grown hg (fun e => by injection e with e; omega), ⟨h2.1, h2.2.1, h2.2.2.1, fun h0 => ?_⟩, ⟨h3.1, h3.2.over hg (fun x e => by cases e; exact ho)⟩, h4, h5, h6, ?_, h9⟩
 · obtain ⟨g2, o, V, e, hb, hr2, hc⟩ := h2.2.2.2 h0;have hne : g2 ≠ g := by
    rintro rfl;unfold RowA at hr hr2;rw [hr] at hr2;injection hr2 with hr2
    injection hr2 with _ e2
    exact absurd e2 (by decide)
   have hr3 := hr2.grown hg (fun e => hne (by injection e with e; exact e.symm));exact ⟨g2, o, V, e, hb, hr3, fun i t hi => zq7 (hc i t hi) hr2 hr3⟩
 · refine ⟨h7.1.same fun b i v hb hc => ?_, h7.2⟩;have e := hg.block b (xzb hc) (fun e => by injection e with e; have := h7.2; omega);rw [← hc];simp [World.cell?, e]
theorem yju : 71 ≠ 51 := by decide
theorem pNum_s (h : RdW w B q en L st) {X : ByteArray} (hX : strOf (yw3 en st) = X) : Calls Tryz.prog 113 #[.pointer (some ⟨q, 0, none⟩)] w fun x w' => x = .returned (.string X) ∧ RdW w' B q en L (yz8 en st) ∧ w.grownBy w' (some q) := by
 have := pNum_c h;rw [hX] at this;exact this
theorem pUnits_s (h : RdW w B q en L st) {X : ByteArray} (hX : strOf (untX en st) = X) : Calls Tryz.prog 114 #[.pointer (some ⟨q, 0, none⟩)] w fun x w' => x = .returned (.string X) ∧ RdW w' B q en L (yvw en st) ∧ w.grownBy w' (some q) := by
 have := pUnits_c h;rw [hX] at this;exact this
theorem bytes_in : Bytes [105, 110] := fun x hx => by
 rcases List.mem_cons.1 hx with h | h
 · omega
 · have := List.mem_singleton.1 h; omega
theorem next1_pk (c d : Nat) (l : List Tk) : xqp 1 [c, d] l = (decide ((pkL l).1 = 1) && decide ((pkL l).2.1 = [c, d])) := by
 cases l with
 | nil => rfl
 | cons t r => rfl
set_option maxRecDepth 100000 in
theorem zqr (h : RdW w B q en L st) (hB : B ≤ w.heap.size) (hL : L.Fit) {K : Nat} (hfu : Fu L K (nilS st)) {gd k : Nat} (hqg : q < gd) {nm ot : ByteArray} {at0 : Int} (hd : RowA w gd 62 (dcC (k : Int) nm ot ⟨#[]⟩ ⟨#[]⟩ ⟨#[]⟩ none 0 0 0 at0)) (d0 : Dc) (hd0 : d0.nu = [] ∧ d0.va = [] ∧ d0.un = [] ∧ d0.tr = [] ∧ d0.pl = 0) :
 Calls Tryz.prog 78 #[.pointer (some ⟨q, 0, none⟩), .pointer (some ⟨gd, 0, none⟩)] w fun x w' => x = .returned (.tuple #[]) ∧ ∃ A n c ts pl B2, RowA w' gd 62 (dcC (k : Int) nm ot (strOf (xqz L en K k st d0).nu) (strOf (xqz L en K k st d0).va) (strOf (xqz L en K k st d0).un) A n c pl at0) ∧ OwnX w' A n c ts ∧ ((bodS L en K k st).E = 0 → ts = (xqz L en K k st d0).tr ∧ pl = (xqz L en K k st d0).pl) ∧ RdW w' B2 q en L (bodS L en K k st) ∧ B2 ≤ w'.heap.size ∧ Gd q gd w w' := by
 obtain ⟨k0, n0, o0, nu0, va0, un0, tr0, pl0, ap0⟩ := d0;obtain ⟨z1, z2, z3, z4, z5⟩ := hd0;dsimp only at z1 z2 z3 z4 z5;subst z1 z2 z3 z4 z5;have hd0 : True := trivial;have H0 := hid h;have D0 := hid hd;have G0 := hid (Gd.of (q := q) (gd := gd) (xjb (Below.refl w.heap.size w) (some q)));have B0 := hid hB;have hqd2 := hid hqg;have hqd : Hid (q ≠ gd) := by show _ ≠ _; omega
 have hl := hid hL;have HFu := hid hfu;have c0 := hd.cell (k := 0) (v := .int .i64 (k : Int)) rfl;clear h hd hB hqg hL hfu;generalize hw : w = w0 at *;clear hw;by_cases k1 : k = 1
 · subst k1;go_enter Tryz.func78, Tryz.ntmps78;obtain ⟨N, hN⟩ : ∃ X, X = strOf (yw3 en st) := ⟨_, rfl⟩;have HN := hid hN;clear hN;obtain ⟨U, hU⟩ : ∃ X, X = strOf (yza en 4 (yz8 en st)) := ⟨_, rfl⟩;have HU := hid hU;clear hU;go_wp2_with fail
   refine (pNum_s H0.out HN.out.symm).mono ?_;rintro e w1 ⟨rfl, h2, hg⟩;have H1 := hid h2;have D1 := hid (D0.out.grown hg (fun e => hqd.out (by injection e)));have G1 := hid (G0.out.trans (Gd.of hg));have B1 : Hid (B ≤ w1.heap.size) := Nat.le_trans B0.out hg.size;clear h2 hg H0 D0 G0 B0;have ck := D1.out.cell (k := 3) (v := .string ⟨#[]⟩) rfl;have fk := D1.out.free 3;have H2 := hid (H1.out.setD D1.out hqd2.out 3 (.string N));have D2 : Hid (RowA (w1.setCell ⟨gd, 3, none⟩ (.string N)) gd 62 (#[.int .i64 ((1 : Nat) : Int), .string nm, .string ot, .string N, .string ⟨#[]⟩, .string ⟨#[]⟩, .slice none 0 0, .int .i64 0, .int .i64 at0] : Array Value)) := D1.out.set 3 (.string N);have G2 := hid (G1.out.trans (Gd.set q gd w1 3 (.string N)));have B2 : Hid (B ≤ (w1.setCell ⟨gd, 3, none⟩ (.string N)).heap.size) := by show _ ≤ _; rw [World.size_setCell]; exact B1.out
   clear H1 D1 G1 B1;go_wp2_with fail
   generalize w1.setCell ⟨gd, 3, none⟩ (.string N) = w2 at *;clear ck fk;go_wp2_with fail
   refine (yvz H2.out 4 HU.out.symm).mono ?_;rintro e w3 ⟨rfl, h2, hg⟩;have H3 := hid h2;have D3 := hid (D2.out.grown hg (fun e => hqd.out (by injection e)));have G3 := hid (G2.out.trans (Gd.of hg));have B3 : Hid (B ≤ w3.heap.size) := Nat.le_trans B2.out hg.size;clear h2 hg H2 D2 G2 B2;have ck := D3.out.cell (k := 5) (v := .string ⟨#[]⟩) rfl;have fk := D3.out.free 5;have H4 := hid (H3.out.setD D3.out hqd2.out 5 (.string U));have D4 : Hid (RowA (w3.setCell ⟨gd, 5, none⟩ (.string U)) gd 62 (#[.int .i64 ((1 : Nat) : Int), .string nm, .string ot, .string N, .string ⟨#[]⟩, .string U, .slice none 0 0, .int .i64 0, .int .i64 at0] : Array Value)) := D3.out.set 5 (.string U);have G4 := hid (G3.out.trans (Gd.set q gd w3 5 (.string U)));have B4 : Hid (B ≤ (w3.setCell ⟨gd, 5, none⟩ (.string U)).heap.size) := by show _ ≤ _; rw [World.size_setCell]; exact B3.out
   clear H3 D3 G3 B3;go_wp2_with fail
   generalize w3.setCell ⟨gd, 5, none⟩ (.string U) = w4 at *;clear ck fk;go_wp2
   first | go_end0 | refine bodyPost_ret (results_none rfl _ _ _) rfl ?_
   refine ⟨rfl, none, 0, 0, [], 0, B, ?_, OwnX.nil _, ?_, ?_, B4.out, G4.out⟩
   · have h := D4.out;show RowA _ _ _ (dcC _ nm ot (strOf (yw3 en st)) (strOf []) (strOf (yza en 4 (yz8 en st))) _ _ _ _ _);rw [← HN.out, ← HU.out];exact h
   · intro e;exact ⟨rfl, rfl⟩
   · have h := H4.out;exact h
 · have e1 : ((k : Int) == 1) = false := by rw [beq_eq_false_iff_ne]; omega
   by_cases k2 : k = 2
   · subst k2;go_enter Tryz.func78, Tryz.ntmps78;obtain ⟨N, hN⟩ : ∃ X, X = strOf (yw3 en st) := ⟨_, rfl⟩;have HN := hid hN;clear hN;obtain ⟨U, hU⟩ : ∃ X, X = strOf (untX en (yz8 en st)) := ⟨_, rfl⟩;have HU := hid hU;clear hU;obtain ⟨M, hM⟩ : ∃ X, X = strOf (yw3 en (xvi en [58] (yvw en (yz8 en st)))) := ⟨_, rfl⟩;have HM := hid hM;clear hM;go_wp2_with fail
     refine (pNum_s H0.out HN.out.symm).mono ?_;rintro e w1 ⟨rfl, h2, hg⟩;have H1 := hid h2;have D1 := hid (D0.out.grown hg (fun e => hqd.out (by injection e)));have G1 := hid (G0.out.trans (Gd.of hg));have B1 : Hid (B ≤ w1.heap.size) := Nat.le_trans B0.out hg.size;clear h2 hg H0 D0 G0 B0;have ck := D1.out.cell (k := 3) (v := .string ⟨#[]⟩) rfl;have fk := D1.out.free 3;have H2 := hid (H1.out.setD D1.out hqd2.out 3 (.string N));have D2 : Hid (RowA (w1.setCell ⟨gd, 3, none⟩ (.string N)) gd 62 (#[.int .i64 ((2 : Nat) : Int), .string nm, .string ot, .string N, .string ⟨#[]⟩, .string ⟨#[]⟩, .slice none 0 0, .int .i64 0, .int .i64 at0] : Array Value)) := D1.out.set 3 (.string N);have G2 := hid (G1.out.trans (Gd.set q gd w1 3 (.string N)));have B2 : Hid (B ≤ (w1.setCell ⟨gd, 3, none⟩ (.string N)).heap.size) := by show _ ≤ _; rw [World.size_setCell]; exact B1.out
     clear H1 D1 G1 B1;go_wp2_with fail
     generalize w1.setCell ⟨gd, 3, none⟩ (.string N) = w2 at *;clear ck fk;go_wp2_with fail
     refine (pUnits_s H2.out HU.out.symm).mono ?_;rintro e w3 ⟨rfl, h2, hg⟩;have H3 := hid h2;have D3 := hid (D2.out.grown hg (fun e => hqd.out (by injection e)));have G3 := hid (G2.out.trans (Gd.of hg));have B3 : Hid (B ≤ w3.heap.size) := Nat.le_trans B2.out hg.size;clear h2 hg H2 D2 G2 B2;have ck := D3.out.cell (k := 5) (v := .string ⟨#[]⟩) rfl;have fk := D3.out.free 5;have H4 := hid (H3.out.setD D3.out hqd2.out 5 (.string U));have D4 : Hid (RowA (w3.setCell ⟨gd, 5, none⟩ (.string U)) gd 62 (#[.int .i64 ((2 : Nat) : Int), .string nm, .string ot, .string N, .string ⟨#[]⟩, .string U, .slice none 0 0, .int .i64 0, .int .i64 at0] : Array Value)) := D3.out.set 5 (.string U);have G4 := hid (G3.out.trans (Gd.set q gd w3 5 (.string U)));have B4 : Hid (B ≤ (w3.setCell ⟨gd, 5, none⟩ (.string U)).heap.size) := by show _ ≤ _; rw [World.size_setCell]; exact B3.out
     clear H3 D3 G3 B3;go_wp2_with fail
     generalize w3.setCell ⟨gd, 5, none⟩ (.string U) = w4 at *;clear ck fk;go_wp2_with fail
     refine (xvl H4.out 58 (by decide)).mono ?_;rintro e w5 ⟨rfl, h2, hg⟩;have H5 := hid h2;have D5 := hid (D4.out.grown hg (fun e => hqd.out (by injection e)));have G5 := hid (G4.out.trans (Gd.of hg));have B5 : Hid (B ≤ w5.heap.size) := Nat.le_trans B4.out hg.size;clear h2 hg H4 D4 G4 B4;go_wp2_with fail
     refine (pNum_s H5.out HM.out.symm).mono ?_;rintro e w6 ⟨rfl, h2, hg⟩;have H6 := hid h2;have D6 := hid (D5.out.grown hg (fun e => hqd.out (by injection e)));have G6 := hid (G5.out.trans (Gd.of hg));have B6 : Hid (B ≤ w6.heap.size) := Nat.le_trans B5.out hg.size;clear h2 hg H5 D5 G5 B5;have ck := D6.out.cell (k := 4) (v := .string ⟨#[]⟩) rfl;have fk := D6.out.free 4;have H7 := hid (H6.out.setD D6.out hqd2.out 4 (.string M));have D7 : Hid (RowA (w6.setCell ⟨gd, 4, none⟩ (.string M)) gd 62 (#[.int .i64 ((2 : Nat) : Int), .string nm, .string ot, .string N, .string M, .string U, .slice none 0 0, .int .i64 0, .int .i64 at0] : Array Value)) := D6.out.set 4 (.string M);have G7 := hid (G6.out.trans (Gd.set q gd w6 4 (.string M)));have B7 : Hid (B ≤ (w6.setCell ⟨gd, 4, none⟩ (.string M)).heap.size) := by show _ ≤ _; rw [World.size_setCell]; exact B6.out
     clear H6 D6 G6 B6;go_wp2_with fail
     generalize w6.setCell ⟨gd, 4, none⟩ (.string M) = w7 at *;clear ck fk;go_wp2
     first | go_end0 | refine bodyPost_ret (results_none rfl _ _ _) rfl ?_
     refine ⟨rfl, none, 0, 0, [], 0, B, ?_, OwnX.nil _, ?_, ?_, B7.out, G7.out⟩
     · have h := D7.out;show RowA _ _ _ (dcC _ nm ot (strOf (yw3 en st)) (strOf (yw3 en (xvi en [58] (yvw en (yz8 en st))))) (strOf (untX en (yz8 en st))) _ _ _ _ _);rw [← HN.out, ← HU.out, ← HM.out];exact h
     · intro e;exact ⟨rfl, rfl⟩
     · have h := H7.out;exact h
   · have e2 : ((k : Int) == 2) = false := by rw [beq_eq_false_iff_ne]; omega
     by_cases k3 : k = 3
     · subst k3;go_enter Tryz.func78, Tryz.ntmps78;obtain ⟨N, hN⟩ : ∃ X, X = strOf (yw3 en st) := ⟨_, rfl⟩;have HN := hid hN;clear hN;go_wp2_with fail
       refine (pNum_s H0.out HN.out.symm).mono ?_;rintro e w1 ⟨rfl, h2, hg⟩;have H1 := hid h2;have D1 := hid (D0.out.grown hg (fun e => hqd.out (by injection e)));have G1 := hid (G0.out.trans (Gd.of hg));have B1 : Hid (B ≤ w1.heap.size) := Nat.le_trans B0.out hg.size;clear h2 hg H0 D0 G0 B0;have ck := D1.out.cell (k := 3) (v := .string ⟨#[]⟩) rfl;have fk := D1.out.free 3;have H2 := hid (H1.out.setD D1.out hqd2.out 3 (.string N));have D2 : Hid (RowA (w1.setCell ⟨gd, 3, none⟩ (.string N)) gd 62 (#[.int .i64 ((3 : Nat) : Int), .string nm, .string ot, .string N, .string ⟨#[]⟩, .string ⟨#[]⟩, .slice none 0 0, .int .i64 0, .int .i64 at0] : Array Value)) := D1.out.set 3 (.string N);have G2 := hid (G1.out.trans (Gd.set q gd w1 3 (.string N)));have B2 : Hid (B ≤ (w1.setCell ⟨gd, 3, none⟩ (.string N)).heap.size) := by show _ ≤ _; rw [World.size_setCell]; exact B1.out
       clear H1 D1 G1 B1;go_wp2_with fail
       generalize w1.setCell ⟨gd, 3, none⟩ (.string N) = w2 at *;clear ck fk;go_wp2
       first | go_end0 | refine bodyPost_ret (results_none rfl _ _ _) rfl ?_
       refine ⟨rfl, none, 0, 0, [], 0, B, ?_, OwnX.nil _, ?_, ?_, B2.out, G2.out⟩
       · have h := D2.out;show RowA _ _ _ (dcC _ nm ot (strOf (yw3 en st)) (strOf []) (strOf []) _ _ _ _ _);rw [← HN.out];exact h
       · intro e;exact ⟨rfl, rfl⟩
       · have h := H2.out;exact h
     · have e3 : ((k : Int) == 3) = false := by rw [beq_eq_false_iff_ne]; omega
       by_cases k4 : k = 4
       · subst k4;go_enter Tryz.func78, Tryz.ntmps78;go_wp2_with fail
         refine (pTree_c H0.out B0.out hl.out HFu.out).mono ?_;rintro e w1 ⟨C, m, d, ts, rfl, hO, hts, h2, hg⟩;have H1 := hid h2;have D1 := hid (D0.out.grown hg (fun e => hqd.out (by injection e)));have G1 := hid (G0.out.trans (Gd.of hg));have B1 : Hid (w0.heap.size ≤ w1.heap.size) := hg.size;have X1 := hid hO.x;have Hts := hid hts;obtain ⟨Bt, hBt⟩ : ∃ b, b = w0.heap.size := ⟨_, rfl⟩;rw [← hBt] at H1 B1;clear hBt hO hts h2 hg H0 D0 G0 B0;have ck := D1.out.cell (k := 6) (v := .slice none 0 0) rfl;have fk := D1.out.free 6;have H2 := hid (H1.out.setD D1.out hqd2.out 6 (.slice C m d));have D2 : Hid (RowA (w1.setCell ⟨gd, 6, none⟩ (.slice C m d)) gd 62 (#[.int .i64 ((4 : Nat) : Int), .string nm, .string ot, .string ⟨#[]⟩, .string ⟨#[]⟩, .string ⟨#[]⟩, .slice C m d, .int .i64 0, .int .i64 at0] : Array Value)) := D1.out.set 6 (.slice C m d);have G2 := hid (G1.out.trans (Gd.set q gd w1 6 (.slice C m d)));have B2 : Hid (Bt ≤ (w1.setCell ⟨gd, 6, none⟩ (.slice C m d)).heap.size) := by show _ ≤ _; rw [World.size_setCell]; exact B1.out
         have X2 := hid (X1.out.over D1.out (by decide) (xqs w1 gd 6 (.slice C m d)));clear H1 D1 G1 B1 X1;go_wp2_with fail
         generalize w1.setCell ⟨gd, 6, none⟩ (.slice C m d) = w2 at *;clear ck fk;go_wp2
         first | go_end0 | refine bodyPost_ret (results_none rfl _ _ _) rfl ?_
         refine ⟨rfl, C, m, d, ts, 0, Bt, ?_, X2.out, ?_, ?_, B2.out, G2.out⟩
         · have h := D2.out;show RowA _ _ _ (dcC _ nm ot (strOf []) (strOf []) (strOf []) _ _ _ _ _);exact h
         · intro e;exact ⟨Hts.out e, rfl⟩
         · have h := H2.out;exact h
       · have e4 : ((k : Int) == 4) = false := by rw [beq_eq_false_iff_ne]; omega
         by_cases k5 : k = 5
         · subst k5;go_enter Tryz.func78, Tryz.ntmps78;go_wp2_with fail
           refine (pTree_c H0.out B0.out hl.out HFu.out).mono ?_;rintro e w1 ⟨C, m, d, ts, rfl, hO, hts, h2, hg⟩;have H1 := hid h2;have D1 := hid (D0.out.grown hg (fun e => hqd.out (by injection e)));have G1 := hid (G0.out.trans (Gd.of hg));have B1 : Hid (w0.heap.size ≤ w1.heap.size) := hg.size;have X1 := hid hO.x;have Hts := hid hts;obtain ⟨Bt, hBt⟩ : ∃ b, b = w0.heap.size := ⟨_, rfl⟩;rw [← hBt] at H1 B1;clear hBt hO hts h2 hg H0 D0 G0 B0;have ck := D1.out.cell (k := 6) (v := .slice none 0 0) rfl;have fk := D1.out.free 6;have H2 := hid (H1.out.setD D1.out hqd2.out 6 (.slice C m d));have D2 : Hid (RowA (w1.setCell ⟨gd, 6, none⟩ (.slice C m d)) gd 62 (#[.int .i64 ((5 : Nat) : Int), .string nm, .string ot, .string ⟨#[]⟩, .string ⟨#[]⟩, .string ⟨#[]⟩, .slice C m d, .int .i64 0, .int .i64 at0] : Array Value)) := D1.out.set 6 (.slice C m d);have G2 := hid (G1.out.trans (Gd.set q gd w1 6 (.slice C m d)));have B2 : Hid (Bt ≤ (w1.setCell ⟨gd, 6, none⟩ (.slice C m d)).heap.size) := by show _ ≤ _; rw [World.size_setCell]; exact B1.out
           have X2 := hid (X1.out.over D1.out (by decide) (xqs w1 gd 6 (.slice C m d)));clear H1 D1 G1 B1 X1;go_wp2_with fail
           generalize w1.setCell ⟨gd, 6, none⟩ (.slice C m d) = w2 at *;clear ck fk;obtain ⟨⟨kw, tw, aw⟩, hpw⟩ : ∃ t, t = pkS (xwu L en K st) := ⟨_, rfl⟩;replace hpw := hid hpw.symm;have hbw := H2.out.pk.1;rw [hpw.out] at hbw;have Hbw := hid hbw;clear hbw;go_wp2_with fail
           refine (xjy H2.out hpw.out).mono ?_;rintro e w3 ⟨rfl, bn⟩;have hg := xjb bn (some q);have H3 := hid (H2.out.below bn);have D3 := hid (D2.out.grown hg (fun e => hqd.out (by injection e)));have G3 := hid (G2.out.trans (Gd.of hg));have B3 : Hid (Bt ≤ w3.heap.size) := Nat.le_trans B2.out hg.size;have X3 := hid (X2.out.over (RdW.size H2.out).choose_spec.choose_spec.choose_spec.choose_spec.choose_spec.choose_spec yju hg);clear bn hg H2 D2 G2 B2 X2;cases hin : (decide (kw = 1) && decide (tw = [105, 110])) with
           | true =>
            have Hin := hid hin;have hnx : Hid (xqp 1 [105, 110] (xwu L en K st).l = true) := by
             show _ = _;rw [← hin, next1_pk, show pkL (xwu L en K st).l = (kw, tw, aw) from hpw.out]
            clear hin;go_wp2_with fail
            refine (xj3 kw aw tw [105, 110] Hbw.out bytes_in _ Hin.out).mono ?_;rintro e w4 ⟨rfl, bn⟩;have hg := xjb bn (some q);have H4 := hid (H3.out.below bn);have D4 := hid (D3.out.grown hg (fun e => hqd.out (by injection e)));have G4 := hid (G3.out.trans (Gd.of hg));have B4 : Hid (Bt ≤ w4.heap.size) := Nat.le_trans B3.out hg.size;have X4 := hid (X3.out.over (RdW.size H3.out).choose_spec.choose_spec.choose_spec.choose_spec.choose_spec.choose_spec yju hg);clear bn hg H3 D3 G3 B3 X3;obtain ⟨U, hU⟩ : ∃ X, X = strOf (yza en 4 (rdS (xwu L en K st))) := ⟨_, rfl⟩;have HU := hid hU;clear hU;go_wp2_with fail
            refine (xwa H4.out).mono ?_;rintro e w5 ⟨rfl, h2, hg⟩;have H5 := hid h2;have D5 := hid (D4.out.grown hg (fun e => hqd.out (by injection e)));have G5 := hid (G4.out.trans (Gd.of hg));have B5 : Hid (Bt ≤ w5.heap.size) := Nat.le_trans B4.out hg.size;have X5 := hid (X4.out.over (RdW.size H4.out).choose_spec.choose_spec.choose_spec.choose_spec.choose_spec.choose_spec yju hg);clear h2 hg H4 D4 G4 B4 X4;go_wp2_with fail
            refine (yvz H5.out 4 HU.out.symm).mono ?_;rintro e w6 ⟨rfl, h2, hg⟩;have H6 := hid h2;have D6 := hid (D5.out.grown hg (fun e => hqd.out (by injection e)));have G6 := hid (G5.out.trans (Gd.of hg));have B6 : Hid (Bt ≤ w6.heap.size) := Nat.le_trans B5.out hg.size;have X6 := hid (X5.out.over (RdW.size H5.out).choose_spec.choose_spec.choose_spec.choose_spec.choose_spec.choose_spec yju hg);clear h2 hg H5 D5 G5 B5 X5;have ck := D6.out.cell (k := 5) (v := .string ⟨#[]⟩) rfl;have fk := D6.out.free 5;have H7 := hid (H6.out.setD D6.out hqd2.out 5 (.string U));have D7 : Hid (RowA (w6.setCell ⟨gd, 5, none⟩ (.string U)) gd 62 (#[.int .i64 ((5 : Nat) : Int), .string nm, .string ot, .string ⟨#[]⟩, .string ⟨#[]⟩, .string U, .slice C m d, .int .i64 0, .int .i64 at0] : Array Value)) := D6.out.set 5 (.string U);have G7 := hid (G6.out.trans (Gd.set q gd w6 5 (.string U)));have B7 : Hid (Bt ≤ (w6.setCell ⟨gd, 5, none⟩ (.string U)).heap.size) := by show _ ≤ _; rw [World.size_setCell]; exact B6.out
            have X7 := hid (X6.out.over D6.out (by decide) (xqs w6 gd 5 (.string U)));clear H6 D6 G6 B6 X6;go_wp2_with fail
            generalize w6.setCell ⟨gd, 5, none⟩ (.string U) = w7 at *;clear ck fk;have ho1 : Hid (out1 en (xwu L en K st) = xwp en 4 (rdS (xwu L en K st)) ∧ out1X en (xwu L en K st) = yza en 4 (rdS (xwu L en K st))) := by
             show _ ∧ _;unfold out1 out1X;rw [hnx.out];exact ⟨rfl, rfl⟩
            go_wp2_with fail
            refine (xvl H7.out 58 (by decide)).mono ?_;rintro e w8 ⟨rfl, h2, hg⟩;have H8 := hid h2;have D8 := hid (D7.out.grown hg (fun e => hqd.out (by injection e)));have G8 := hid (G7.out.trans (Gd.of hg));have B8 : Hid (Bt ≤ w8.heap.size) := Nat.le_trans B7.out hg.size;have X8 := hid (X7.out.over (RdW.size H7.out).choose_spec.choose_spec.choose_spec.choose_spec.choose_spec.choose_spec yju hg);clear h2 hg H7 D7 G7 B7 X7;go_wp2_with fail
            refine (yw2 H8.out 2 60 (by decide)).mono ?_;rintro e w9 ⟨Nn, rfl, hN, h2, hg, _⟩;have HNn := hid hN;have H9 := hid h2;have D9 := hid (D8.out.grown hg (fun e => hqd.out (by injection e)));have G9 := hid (G8.out.trans (Gd.of hg));have B9 : Hid (Bt ≤ w9.heap.size) := Nat.le_trans B8.out hg.size;have X9 := hid (X8.out.over (RdW.size H8.out).choose_spec.choose_spec.choose_spec.choose_spec.choose_spec.choose_spec yju hg);clear hN h2 hg H8 D8 G8 B8 X8;have ck := D9.out.cell (k := 7) (v := .int .i64 0) rfl;have fk := D9.out.free 7;have H10 := hid (H9.out.setD D9.out hqd2.out 7 (.int .i64 Nn));have D10 : Hid (RowA (w9.setCell ⟨gd, 7, none⟩ (.int .i64 Nn)) gd 62 (#[.int .i64 ((5 : Nat) : Int), .string nm, .string ot, .string ⟨#[]⟩, .string ⟨#[]⟩, .string U, .slice C m d, .int .i64 Nn, .int .i64 at0] : Array Value)) := D9.out.set 7 (.int .i64 Nn);have G10 := hid (G9.out.trans (Gd.set q gd w9 7 (.int .i64 Nn)));have B10 : Hid (Bt ≤ (w9.setCell ⟨gd, 7, none⟩ (.int .i64 Nn)).heap.size) := by show _ ≤ _; rw [World.size_setCell]; exact B9.out
            have X10 := hid (X9.out.over D9.out (by decide) (xqs w9 gd 7 (.int .i64 Nn)));clear H9 D9 G9 B9 X9;go_wp2_with fail
            generalize w9.setCell ⟨gd, 7, none⟩ (.int .i64 Nn) = w10 at *;clear ck fk;go_wp2
            first | go_end0 | refine bodyPost_ret (results_none rfl _ _ _) rfl ?_
            refine ⟨rfl, C, m, d, ts, Nn, Bt, ?_, X10.out, ?_, ?_, B10.out, G10.out⟩
            · have h := D10.out;show RowA _ _ _ (dcC _ nm ot (strOf []) (strOf []) (strOf (out1X en (xwu L en K st))) _ _ _ _ _);rw [ho1.out.2, ← HU.out];exact h
            · intro e;have e2 : (yqp en 2 60 (xvi en [58] (out1 en (xwu L en K st)))).E = 0 := e;refine ⟨Hts.out (E_out1 (en := en) (E_sgn (E_sml e2))), ?_⟩;rw [ho1.out.1] at e2;have h3 := HNn.out e2;rw [h3];show _ = (((yzc 2 (xvi en [58] (out1 en (xwu L en K st)))).getD 0 : Nat) : Int);rw [ho1.out.1]
            · have h := H10.out;show RdW _ _ _ _ _ (yqp en 2 60 (xvi en [58] (out1 en (xwu L en K st))));rw [ho1.out.1];exact h
           | false =>
            have Hin := hid hin;have hnx : Hid (xqp 1 [105, 110] (xwu L en K st).l = false) := by
             show _ = _;rw [← hin, next1_pk, show pkL (xwu L en K st).l = (kw, tw, aw) from hpw.out]
            clear hin;go_wp2_with fail
            refine (xj3 kw aw tw [105, 110] Hbw.out bytes_in _ Hin.out).mono ?_;rintro e w4 ⟨rfl, bn⟩;have hg := xjb bn (some q);have H4 := hid (H3.out.below bn);have D4 := hid (D3.out.grown hg (fun e => hqd.out (by injection e)));have G4 := hid (G3.out.trans (Gd.of hg));have B4 : Hid (Bt ≤ w4.heap.size) := Nat.le_trans B3.out hg.size;have X4 := hid (X3.out.over (RdW.size H3.out).choose_spec.choose_spec.choose_spec.choose_spec.choose_spec.choose_spec yju hg);clear bn hg H3 D3 G3 B3 X3;have ho1 : Hid (out1 en (xwu L en K st) = xwu L en K st ∧ out1X en (xwu L en K st) = []) := by
             show _ ∧ _;unfold out1 out1X;rw [hnx.out];exact ⟨rfl, rfl⟩
            go_wp2_with fail
            refine (xvl H4.out 58 (by decide)).mono ?_;rintro e w5 ⟨rfl, h2, hg⟩;have H5 := hid h2;have D5 := hid (D4.out.grown hg (fun e => hqd.out (by injection e)));have G5 := hid (G4.out.trans (Gd.of hg));have B5 : Hid (Bt ≤ w5.heap.size) := Nat.le_trans B4.out hg.size;have X5 := hid (X4.out.over (RdW.size H4.out).choose_spec.choose_spec.choose_spec.choose_spec.choose_spec.choose_spec yju hg);clear h2 hg H4 D4 G4 B4 X4;go_wp2_with fail
            refine (yw2 H5.out 2 60 (by decide)).mono ?_;rintro e w6 ⟨Nn, rfl, hN, h2, hg, _⟩;have HNn := hid hN;have H6 := hid h2;have D6 := hid (D5.out.grown hg (fun e => hqd.out (by injection e)));have G6 := hid (G5.out.trans (Gd.of hg));have B6 : Hid (Bt ≤ w6.heap.size) := Nat.le_trans B5.out hg.size;have X6 := hid (X5.out.over (RdW.size H5.out).choose_spec.choose_spec.choose_spec.choose_spec.choose_spec.choose_spec yju hg);clear hN h2 hg H5 D5 G5 B5 X5;have ck := D6.out.cell (k := 7) (v := .int .i64 0) rfl;have fk := D6.out.free 7;have H7 := hid (H6.out.setD D6.out hqd2.out 7 (.int .i64 Nn));have D7 : Hid (RowA (w6.setCell ⟨gd, 7, none⟩ (.int .i64 Nn)) gd 62 (#[.int .i64 ((5 : Nat) : Int), .string nm, .string ot, .string ⟨#[]⟩, .string ⟨#[]⟩, .string ⟨#[]⟩, .slice C m d, .int .i64 Nn, .int .i64 at0] : Array Value)) := D6.out.set 7 (.int .i64 Nn);have G7 := hid (G6.out.trans (Gd.set q gd w6 7 (.int .i64 Nn)));have B7 : Hid (Bt ≤ (w6.setCell ⟨gd, 7, none⟩ (.int .i64 Nn)).heap.size) := by show _ ≤ _; rw [World.size_setCell]; exact B6.out
            have X7 := hid (X6.out.over D6.out (by decide) (xqs w6 gd 7 (.int .i64 Nn)));clear H6 D6 G6 B6 X6;go_wp2_with fail
            generalize w6.setCell ⟨gd, 7, none⟩ (.int .i64 Nn) = w7 at *;clear ck fk;go_wp2
            first | go_end0 | refine bodyPost_ret (results_none rfl _ _ _) rfl ?_
            refine ⟨rfl, C, m, d, ts, Nn, Bt, ?_, X7.out, ?_, ?_, B7.out, G7.out⟩
            · have h := D7.out;show RowA _ _ _ (dcC _ nm ot (strOf []) (strOf []) (strOf (out1X en (xwu L en K st))) _ _ _ _ _);rw [ho1.out.2];exact h
            · intro e;have e2 : (yqp en 2 60 (xvi en [58] (out1 en (xwu L en K st)))).E = 0 := e;refine ⟨Hts.out (E_out1 (en := en) (E_sgn (E_sml e2))), ?_⟩;rw [ho1.out.1] at e2;have h3 := HNn.out e2;rw [h3];show _ = (((yzc 2 (xvi en [58] (out1 en (xwu L en K st)))).getD 0 : Nat) : Int);rw [ho1.out.1]
            · have h := H7.out;show RdW _ _ _ _ _ (yqp en 2 60 (xvi en [58] (out1 en (xwu L en K st))));rw [ho1.out.1];exact h
         · have e5 : ((k : Int) == 5) = false := by rw [beq_eq_false_iff_ne]; omega
           have hk0 := hid (And.intro k1 (And.intro k2 (And.intro k3 (And.intro k4 k5))));clear k1 k2 k3 k4 k5;go_enter Tryz.func78, Tryz.ntmps78;go_wp2
           first | go_end0 | refine bodyPost_ret (results_none rfl _ _ _) rfl ?_
           have eD : xqz L en K k st ⟨k0, n0, o0, [], [], [], [], 0, ap0⟩ = ⟨k0, n0, o0, [], [], [], [], 0, ap0⟩ := by unfold xqz; rw [if_neg hk0.out.1, if_neg hk0.out.2.1, if_neg hk0.out.2.2.1, if_neg hk0.out.2.2.2.1, if_neg hk0.out.2.2.2.2]
           have eS : bodS L en K k st = st := by unfold bodS; rw [if_neg hk0.out.1, if_neg hk0.out.2.1, if_neg hk0.out.2.2.1, if_neg hk0.out.2.2.2.1, if_neg hk0.out.2.2.2.2]
           rw [eD, eS];refine ⟨rfl, none, 0, 0, [], 0, B, ?_, OwnX.nil _, fun _ => ⟨rfl, rfl⟩, H0.out, B0.out, G0.out⟩;exact D0.out
end
end Go.Proofs.YtannifhcjcbkcaaGreatDoor
