/- Part 14 of the texts that the statements of this seat lean on: mathematics, and what functions answer, as contracts over memory; each part says its own conditions. -/
import Derived.Test.YtannifhcjcbkcaaGreatDoorMB13
import Derived.Test.YtannifhcjcbkcaaGreatDoorShelf
import Derived.Lib.Join
set_option linter.unusedVariables false
set_option maxHeartbeats 8000000
namespace Go.Proofs.YtannifhcjcbkcaaGreatDoor
open Go.RowKit Limb
open Lib (hid)
def xvg (k : Int) (ot nu va un : ByteArray) (ts : List Nd) (pl : Int) : Bool :=
 if k = 1 then ywj (bytesOf nu) && (!decide (un.size = 0) && xjt un)
 else if k = 2 then ywj (bytesOf nu) && (xjt un && ywj (bytesOf va))
 else if k = 3 then xjn (bytesOf ot) && ywj (bytesOf nu)
 else if k = 4 then xq5 ts
 else if k = 5 then xq5 ts && (xjt un && (decide (0 ≤ pl) && decide (pl ≤ 60)))
 else false
theorem str_some {u : ByteArray} (h : ¬ u.size = 0) : ¬ u.toList = [] ∧ (!u.toList.isEmpty) = true := by
 have hne : ¬ u.toList = [] := by
  intro e;rw [ByteArray.toList_eq] at e;exact h (by show u.data.size = 0; rw [← Array.length_toList, e]; rfl)
 refine ⟨hne, ?_⟩;cases he : u.toList with
 | nil => exact absurd he hne
 | cons c r => rfl
theorem XTab.nt {w : World} (h : XTab w) : NTab w := h.2
set_option maxRecDepth 100000 in
theorem wFits1_c (nm ot nu va un : ByteArray) {A : Option Addr} {n c : Nat} {ts : List Nd} (pl at1 : Int) {w : World} (h : TreR w A n c ts) (hm : Mild ts) (hs : nm.size ≤ 1000000 ∧ ot.size ≤ 1000000 ∧ nu.size ≤ 1000000 ∧ va.size ≤ 1000000 ∧ un.size ≤ 1000000) (T : XTab w) (v : Bool) (hv : xvg 1 ot nu va un ts pl = v) :
 Calls Tryz.prog 63 #[.agg (dcC 1 nm ot nu va un A n c pl at1)] w fun e w' => e = .returned (.bool v) ∧ Below w.heap.size w w' := by
 obtain ⟨s1, s2, s3, s4, s5⟩ := hs;have Hot := hid s2;have Hnu := hid s3;have Hva := hid s4;have Hun := hid s5;have HM := hid hm;have HTw := hid T;clear s1 s2 s3 s4 s5 hm T;have bn := xqc w (.cells (dcC 1 nm ot nu va un A n c pl at1) 62);have h_rx := xqd w 62 (dcC 1 nm ot nu va un A n c pl at1);have HR0 := hid (h.below bn);have HT0 := hid (HTw.out.below bn);have HB0 := hid bn;clear h bn HTw;go_enter Tryz.func63, Tryz.ntmps63
 go_upto_region 1 with fail
 generalize w.alloc (.cells (dcC 1 nm ot nu va un A n c pl at1) 62) = z0 at *;obtain ⟨q_x, eg⟩ : ∃ g, g = w.heap.size := ⟨_, rfl⟩;rw [← eg] at h_rx ⊢;clear eg;have HX0 := hid h_rx;clear h_rx;have x0_0 := HX0.out.cell (k := 0) (v := .int .i64 1) rfl;have x0_3 := HX0.out.cell (k := 3) (v := .string nu) rfl;cases hn : ywj (bytesOf nu) with
 | false =>
  have E_nu := hid hn;have HV : Hid (v = false) := by show _ = _; rw [← hv]; unfold xvg; rw [if_pos rfl, E_nu.out]; rfl
  clear hv;go_wp2_with (first | (go_at_call 102; (with_reducible refine (ywf nu Hnu.out HT0.out false E_nu.out).mono ?_); rintro e z1 ⟨rfl, bn⟩; have HX1 := hid (HX0.out.below bn); have HT1 := hid (HT0.out.below bn); have HR1 := hid (HR0.out.below bn); have HB1 := hid (xqa HB0.out bn); clear bn));go_ret
  exact ⟨by rw [HV.out]; rfl, HB1.out⟩
 | true =>
  have E_nu := hid hn;by_cases hu : un.size = 0
  · obtain rfl := xwe hu;have HV : Hid (v = false) := by show _ = _; rw [← hv]; unfold xvg; rw [if_pos rfl, E_nu.out]; rfl
    clear hv;go_wp2_with (first | (go_at_call 102; (with_reducible refine (ywf nu Hnu.out HT0.out true E_nu.out).mono ?_); rintro e z1 ⟨rfl, bn⟩; have HX1 := hid (HX0.out.below bn); have HT1 := hid (HT0.out.below bn); have HR1 := hid (HR0.out.below bn); have HB1 := hid (xqa HB0.out bn); have x1_5 := HX1.out.cell (k := 5) (v := .string ⟨#[]⟩) rfl; clear bn));go_ret
    exact ⟨by rw [HV.out]; rfl, HB1.out⟩
  · obtain ⟨hne, hne2⟩ := str_some hu;obtain ⟨b, hb⟩ : ∃ b, xjt un = b := ⟨_, rfl⟩;have E_un := hid hb;have HV : Hid (v = b) := by show _ = _; rw [← hv]; unfold xvg; rw [if_pos rfl, E_nu.out, hb, decide_eq_false hu]; rfl
    clear hv hb hu;go_wp2_with (first | (go_at_call 102; (with_reducible refine (ywf nu Hnu.out HT0.out true E_nu.out).mono ?_); rintro e z1 ⟨rfl, bn⟩; have HX1 := hid (HX0.out.below bn); have HT1 := hid (HT0.out.below bn); have HR1 := hid (HR0.out.below bn); have HB1 := hid (xqa HB0.out bn); have x1_5 := HX1.out.cell (k := 5) (v := .string un) rfl; clear bn) | (go_at_call 103; (with_reducible refine (yj6 un Hun.out HT1.out b E_un.out).mono ?_); rintro e z2 ⟨rfl, bn⟩; have HX2 := hid (HX1.out.below bn); have HT2 := hid (HT1.out.below bn); have HR2 := hid (HR1.out.below bn); have HB2 := hid (xqa HB1.out bn); clear bn));go_ret
    exact ⟨by rw [HV.out]; rfl, HB2.out⟩
set_option maxRecDepth 100000 in
theorem wFits2_c (nm ot nu va un : ByteArray) {A : Option Addr} {n c : Nat} {ts : List Nd} (pl at1 : Int) {w : World} (h : TreR w A n c ts) (hm : Mild ts) (hs : nm.size ≤ 1000000 ∧ ot.size ≤ 1000000 ∧ nu.size ≤ 1000000 ∧ va.size ≤ 1000000 ∧ un.size ≤ 1000000) (T : XTab w) (v : Bool) (hv : xvg 2 ot nu va un ts pl = v) :
 Calls Tryz.prog 63 #[.agg (dcC 2 nm ot nu va un A n c pl at1)] w fun e w' => e = .returned (.bool v) ∧ Below w.heap.size w w' := by
 obtain ⟨s1, s2, s3, s4, s5⟩ := hs;have Hot := hid s2;have Hnu := hid s3;have Hva := hid s4;have Hun := hid s5;have HM := hid hm;have HTw := hid T;clear s1 s2 s3 s4 s5 hm T;have bn := xqc w (.cells (dcC 2 nm ot nu va un A n c pl at1) 62);have h_rx := xqd w 62 (dcC 2 nm ot nu va un A n c pl at1);have HR0 := hid (h.below bn);have HT0 := hid (HTw.out.below bn);have HB0 := hid bn;clear h bn HTw;go_enter Tryz.func63, Tryz.ntmps63
 go_upto_region 1 with fail
 generalize w.alloc (.cells (dcC 2 nm ot nu va un A n c pl at1) 62) = z0 at *;obtain ⟨q_x, eg⟩ : ∃ g, g = w.heap.size := ⟨_, rfl⟩;rw [← eg] at h_rx ⊢;clear eg;have HX0 := hid h_rx;clear h_rx;have x0_0 := HX0.out.cell (k := 0) (v := .int .i64 2) rfl;have x0_3 := HX0.out.cell (k := 3) (v := .string nu) rfl;cases hn : ywj (bytesOf nu) with
 | false =>
  have E_nu := hid hn;have HV : Hid (v = false) := by show _ = _; rw [← hv]; unfold xvg; rw [if_neg (by decide), if_pos rfl, E_nu.out]; rfl
  clear hv hn;go_wp2_with (go_at_call 102; (with_reducible refine (ywf nu Hnu.out HT0.out false E_nu.out).mono ?_); rintro e z1 ⟨rfl, bn⟩; have HX1 := hid (HX0.out.below bn); have HT1 := hid (HT0.out.below bn); have HR1 := hid (HR0.out.below bn); have HB1 := hid (xqa HB0.out bn); clear bn);go_ret
  exact ⟨by rw [HV.out]; rfl, HB1.out⟩
 | true =>
  have E_nu := hid hn;cases hu : xjt un with
  | false =>
   have E_un := hid hu;have HV : Hid (v = false) := by show _ = _; rw [← hv]; unfold xvg; rw [if_neg (by decide), if_pos rfl, E_nu.out, E_un.out]; rfl
   clear hv hn hu;go_wp2_with (first | (go_at_call 102; (with_reducible refine (ywf nu Hnu.out HT0.out true E_nu.out).mono ?_); rintro e z1 ⟨rfl, bn⟩; have HX1 := hid (HX0.out.below bn); have HT1 := hid (HT0.out.below bn); have HR1 := hid (HR0.out.below bn); have HB1 := hid (xqa HB0.out bn); have x1_5 := HX1.out.cell (k := 5) (v := .string un) rfl; clear bn) | (go_at_call 103; (with_reducible refine (yj6 un Hun.out HT1.out false E_un.out).mono ?_); rintro e z2 ⟨rfl, bn⟩; have HX2 := hid (HX1.out.below bn); have HT2 := hid (HT1.out.below bn); have HR2 := hid (HR1.out.below bn); have HB2 := hid (xqa HB1.out bn); clear bn));go_ret
   exact ⟨by rw [HV.out]; rfl, HB2.out⟩
  | true =>
   have E_un := hid hu;obtain ⟨b, hb⟩ : ∃ b, ywj (bytesOf va) = b := ⟨_, rfl⟩;have E_va := hid hb;have HV : Hid (v = b) := by show _ = _; rw [← hv]; unfold xvg; rw [if_neg (by decide), if_pos rfl, E_nu.out, E_un.out, hb]; rfl
   clear hv hn hu hb;go_wp2_with (first | (go_at_call 102; (with_reducible refine (ywf nu Hnu.out HT0.out true E_nu.out).mono ?_); rintro e z1 ⟨rfl, bn⟩; have HX1 := hid (HX0.out.below bn); have HT1 := hid (HT0.out.below bn); have HR1 := hid (HR0.out.below bn); have HB1 := hid (xqa HB0.out bn); have x1_5 := HX1.out.cell (k := 5) (v := .string un) rfl; clear bn) | (go_at_call 103; (with_reducible refine (yj6 un Hun.out HT1.out true E_un.out).mono ?_); rintro e z2 ⟨rfl, bn⟩; have HX2 := hid (HX1.out.below bn); have HT2 := hid (HT1.out.below bn); have HR2 := hid (HR1.out.below bn); have HB2 := hid (xqa HB1.out bn); have x2_4 := HX2.out.cell (k := 4) (v := .string va) rfl; clear bn) | (go_at_call 102; (with_reducible refine (ywf va Hva.out HT2.out b E_va.out).mono ?_); rintro e z3 ⟨rfl, bn⟩; have HX3 := hid (HX2.out.below bn); have HT3 := hid (HT2.out.below bn); have HR3 := hid (HR2.out.below bn); have HB3 := hid (xqa HB2.out bn); clear bn));go_ret
   exact ⟨by rw [HV.out]; rfl, HB3.out⟩
set_option maxRecDepth 100000 in
theorem wFits3_c (nm ot nu va un : ByteArray) {A : Option Addr} {n c : Nat} {ts : List Nd} (pl at1 : Int) {w : World} (h : TreR w A n c ts) (hm : Mild ts) (hs : nm.size ≤ 1000000 ∧ ot.size ≤ 1000000 ∧ nu.size ≤ 1000000 ∧ va.size ≤ 1000000 ∧ un.size ≤ 1000000) (T : XTab w) (v : Bool) (hv : xvg 3 ot nu va un ts pl = v) :
 Calls Tryz.prog 63 #[.agg (dcC 3 nm ot nu va un A n c pl at1)] w fun e w' => e = .returned (.bool v) ∧ Below w.heap.size w w' := by
 obtain ⟨s1, s2, s3, s4, s5⟩ := hs;have Hot := hid s2;have Hnu := hid s3;have Hva := hid s4;have Hun := hid s5;have HM := hid hm;have HTw := hid T;clear s1 s2 s3 s4 s5 hm T;have bn := xqc w (.cells (dcC 3 nm ot nu va un A n c pl at1) 62);have h_rx := xqd w 62 (dcC 3 nm ot nu va un A n c pl at1);have HR0 := hid (h.below bn);have HT0 := hid (HTw.out.below bn);have HB0 := hid bn;clear h bn HTw;go_enter Tryz.func63, Tryz.ntmps63
 go_upto_region 1 with fail
 generalize w.alloc (.cells (dcC 3 nm ot nu va un A n c pl at1) 62) = z0 at *;obtain ⟨q_x, eg⟩ : ∃ g, g = w.heap.size := ⟨_, rfl⟩;rw [← eg] at h_rx ⊢;clear eg;have HX0 := hid h_rx;clear h_rx;have x0_0 := HX0.out.cell (k := 0) (v := .int .i64 3) rfl;have x0_2 := HX0.out.cell (k := 2) (v := .string ot) rfl;cases hn : xjn (bytesOf ot) with
 | false =>
  have E_ot := hid hn;have HV : Hid (v = false) := by show _ = _; rw [← hv]; unfold xvg; rw [if_neg (by decide), if_neg (by decide), if_pos rfl, E_ot.out]; rfl
  clear hv hn;go_wp2_with (go_at_call 62; (with_reducible refine (xj0 ot (by have := Hot.out; omega) z0 HT0.out.nt false E_ot.out).mono ?_); rintro e z1 ⟨rfl, rfl⟩; have HX1 := HX0; have HT1 := HT0; have HR1 := HR0; have HB1 := HB0; skip);go_ret
  exact ⟨by rw [HV.out]; rfl, HB0.out⟩
 | true =>
  have E_ot := hid hn;obtain ⟨b, hb⟩ : ∃ b, ywj (bytesOf nu) = b := ⟨_, rfl⟩;have E_nu := hid hb;have HV : Hid (v = b) := by show _ = _; rw [← hv]; unfold xvg; rw [if_neg (by decide), if_neg (by decide), if_pos rfl, E_ot.out, hb]; rfl
  clear hv hn hb;have x0_3 := HX0.out.cell (k := 3) (v := .string nu) rfl;go_wp2_with (first | (go_at_call 62; (with_reducible refine (xj0 ot (by have := Hot.out; omega) z0 HT0.out.nt true E_ot.out).mono ?_); rintro e z1 ⟨rfl, rfl⟩; have HX1 := HX0; have HT1 := HT0; have HR1 := HR0; have HB1 := HB0; skip) | (go_at_call 102; (with_reducible refine (ywf nu Hnu.out HT0.out b E_nu.out).mono ?_); rintro e z1 ⟨rfl, bn⟩; have HX1 := hid (HX0.out.below bn); have HT1 := hid (HT0.out.below bn); have HR1 := hid (HR0.out.below bn); have HB1 := hid (xqa HB0.out bn); clear bn));go_ret
  exact ⟨by rw [HV.out]; rfl, HB1.out⟩
set_option maxRecDepth 100000 in
theorem wFits4_c (nm ot nu va un : ByteArray) {A : Option Addr} {n c : Nat} {ts : List Nd} (pl at1 : Int) {w : World} (h : TreR w A n c ts) (hm : Mild ts) (hs : nm.size ≤ 1000000 ∧ ot.size ≤ 1000000 ∧ nu.size ≤ 1000000 ∧ va.size ≤ 1000000 ∧ un.size ≤ 1000000) (T : XTab w) (v : Bool) (hv : xvg 4 ot nu va un ts pl = v) :
 Calls Tryz.prog 63 #[.agg (dcC 4 nm ot nu va un A n c pl at1)] w fun e w' => e = .returned (.bool v) ∧ Below w.heap.size w w' := by
 obtain ⟨s1, s2, s3, s4, s5⟩ := hs;have Hot := hid s2;have Hnu := hid s3;have Hva := hid s4;have Hun := hid s5;have HM := hid hm;have HTw := hid T;clear s1 s2 s3 s4 s5 hm T;have bn := xqc w (.cells (dcC 4 nm ot nu va un A n c pl at1) 62);have h_rx := xqd w 62 (dcC 4 nm ot nu va un A n c pl at1);have HR0 := hid (h.below bn);have HT0 := hid (HTw.out.below bn);have HB0 := hid bn;clear h bn HTw;go_enter Tryz.func63, Tryz.ntmps63
 go_upto_region 1 with fail
 generalize w.alloc (.cells (dcC 4 nm ot nu va un A n c pl at1) 62) = z0 at *;obtain ⟨q_x, eg⟩ : ∃ g, g = w.heap.size := ⟨_, rfl⟩;rw [← eg] at h_rx ⊢;clear eg;have HX0 := hid h_rx;clear h_rx;have x0_0 := HX0.out.cell (k := 0) (v := .int .i64 4) rfl;have x0_6 := HX0.out.cell (k := 6) (v := .slice A n c) rfl;have E_ts : Hid (xq5 ts = v) := by show _ = _; rw [← hv]; unfold xvg; rw [if_neg (by decide), if_neg (by decide), if_neg (by decide), if_pos rfl]
 clear hv;go_wp2_with (go_at_call 54; (with_reducible refine (xw5 HR0.out HM.out HT0.out v E_ts.out).mono ?_); rintro e z1 ⟨rfl, bn⟩; have HX1 := hid (HX0.out.below bn); have HT1 := hid (HT0.out.below bn); have HR1 := hid (HR0.out.below bn); have HB1 := hid (xqa HB0.out bn); clear bn);go_ret
 exact ⟨rfl, HB1.out⟩
set_option maxRecDepth 100000 in
theorem wFits5_c (nm ot nu va un : ByteArray) {A : Option Addr} {n c : Nat} {ts : List Nd} (pl at1 : Int) {w : World} (h : TreR w A n c ts) (hm : Mild ts) (hs : nm.size ≤ 1000000 ∧ ot.size ≤ 1000000 ∧ nu.size ≤ 1000000 ∧ va.size ≤ 1000000 ∧ un.size ≤ 1000000) (T : XTab w) (v : Bool) (hv : xvg 5 ot nu va un ts pl = v) :
 Calls Tryz.prog 63 #[.agg (dcC 5 nm ot nu va un A n c pl at1)] w fun e w' => e = .returned (.bool v) ∧ Below w.heap.size w w' := by
 obtain ⟨s1, s2, s3, s4, s5⟩ := hs;have Hot := hid s2;have Hnu := hid s3;have Hva := hid s4;have Hun := hid s5;have HM := hid hm;have HTw := hid T;clear s1 s2 s3 s4 s5 hm T;have bn := xqc w (.cells (dcC 5 nm ot nu va un A n c pl at1) 62);have h_rx := xqd w 62 (dcC 5 nm ot nu va un A n c pl at1);have HR0 := hid (h.below bn);have HT0 := hid (HTw.out.below bn);have HB0 := hid bn;clear h bn HTw;go_enter Tryz.func63, Tryz.ntmps63
 go_upto_region 1 with fail
 generalize w.alloc (.cells (dcC 5 nm ot nu va un A n c pl at1) 62) = z0 at *;obtain ⟨q_x, eg⟩ : ∃ g, g = w.heap.size := ⟨_, rfl⟩;rw [← eg] at h_rx ⊢;clear eg;have HX0 := hid h_rx;clear h_rx;have x0_0 := HX0.out.cell (k := 0) (v := .int .i64 5) rfl;have x0_6 := HX0.out.cell (k := 6) (v := .slice A n c) rfl;cases hn : xq5 ts with
 | false =>
  have E_ts := hid hn;have HV : Hid (v = false) := by show _ = _; rw [← hv]; unfold xvg; rw [if_neg (by decide), if_neg (by decide), if_neg (by decide), if_neg (by decide), if_pos rfl, E_ts.out]; rfl
  clear hv hn;go_wp2_with (go_at_call 54; (with_reducible refine (xw5 HR0.out HM.out HT0.out false E_ts.out).mono ?_); rintro e z1 ⟨rfl, bn⟩; have HX1 := hid (HX0.out.below bn); have HT1 := hid (HT0.out.below bn); have HR1 := hid (HR0.out.below bn); have HB1 := hid (xqa HB0.out bn); clear bn);go_ret
  exact ⟨by rw [HV.out]; rfl, HB1.out⟩
 | true =>
  have E_ts := hid hn;cases hu : xjt un with
  | false =>
   have E_un := hid hu;have HV : Hid (v = false) := by show _ = _; rw [← hv]; unfold xvg; rw [if_neg (by decide), if_neg (by decide), if_neg (by decide), if_neg (by decide), if_pos rfl, E_ts.out, E_un.out]; rfl
   clear hv hn hu;go_wp2_with (first | (go_at_call 54; (with_reducible refine (xw5 HR0.out HM.out HT0.out true E_ts.out).mono ?_); rintro e z1 ⟨rfl, bn⟩; have HX1 := hid (HX0.out.below bn); have HT1 := hid (HT0.out.below bn); have HR1 := hid (HR0.out.below bn); have HB1 := hid (xqa HB0.out bn); have x1_5 := HX1.out.cell (k := 5) (v := .string un) rfl; clear bn) | (go_at_call 103; (with_reducible refine (yj6 un Hun.out HT1.out false E_un.out).mono ?_); rintro e z2 ⟨rfl, bn⟩; have HX2 := hid (HX1.out.below bn); have HT2 := hid (HT1.out.below bn); have HR2 := hid (HR1.out.below bn); have HB2 := hid (xqa HB1.out bn); clear bn));go_ret
   exact ⟨by rw [HV.out]; rfl, HB2.out⟩
  | true =>
   have E_un := hid hu;by_cases hp : pl < 0
   · have g0 : decide (0 ≤ pl) = false := decide_eq_false (by omega);have HV : Hid (v = false) := by show _ = _; rw [← hv]; unfold xvg; rw [if_neg (by decide), if_neg (by decide), if_neg (by decide), if_neg (by decide), if_pos rfl, E_ts.out, E_un.out, g0]; rfl
     clear hv hn hu;go_wp2_with (first | (go_at_call 54; (with_reducible refine (xw5 HR0.out HM.out HT0.out true E_ts.out).mono ?_); rintro e z1 ⟨rfl, bn⟩; have HX1 := hid (HX0.out.below bn); have HT1 := hid (HT0.out.below bn); have HR1 := hid (HR0.out.below bn); have HB1 := hid (xqa HB0.out bn); have x1_5 := HX1.out.cell (k := 5) (v := .string un) rfl; clear bn) | (go_at_call 103; (with_reducible refine (yj6 un Hun.out HT1.out true E_un.out).mono ?_); rintro e z2 ⟨rfl, bn⟩; have HX2 := hid (HX1.out.below bn); have HT2 := hid (HT1.out.below bn); have HR2 := hid (HR1.out.below bn); have HB2 := hid (xqa HB1.out bn); have x2_7 := HX2.out.cell (k := 7) (v := .int .i64 pl) rfl; clear bn));go_ret
     exact ⟨by rw [HV.out]; rfl, HB2.out⟩
   · by_cases hp2 : pl ≤ 60
     · have g0 : decide (0 ≤ pl) = true := decide_eq_true (by omega);have g1 : decide (pl ≤ 60) = true := decide_eq_true (by omega);have gg : 0 ≤ pl := by omega
       have HV : Hid (v = true) := by show _ = _; rw [← hv]; unfold xvg; rw [if_neg (by decide), if_neg (by decide), if_neg (by decide), if_neg (by decide), if_pos rfl, E_ts.out, E_un.out, g0, g1]; rfl
       clear hv hn hu;go_wp2_with (first | (go_at_call 54; (with_reducible refine (xw5 HR0.out HM.out HT0.out true E_ts.out).mono ?_); rintro e z1 ⟨rfl, bn⟩; have HX1 := hid (HX0.out.below bn); have HT1 := hid (HT0.out.below bn); have HR1 := hid (HR0.out.below bn); have HB1 := hid (xqa HB0.out bn); have x1_5 := HX1.out.cell (k := 5) (v := .string un) rfl; clear bn) | (go_at_call 103; (with_reducible refine (yj6 un Hun.out HT1.out true E_un.out).mono ?_); rintro e z2 ⟨rfl, bn⟩; have HX2 := hid (HX1.out.below bn); have HT2 := hid (HT1.out.below bn); have HR2 := hid (HR1.out.below bn); have HB2 := hid (xqa HB1.out bn); have x2_7 := HX2.out.cell (k := 7) (v := .int .i64 pl) rfl; clear bn));go_ret
       exact ⟨by rw [HV.out]; rfl, HB2.out⟩
     · have g0 : decide (0 ≤ pl) = true := decide_eq_true (by omega);have g1 : decide (pl ≤ 60) = false := decide_eq_false (by omega);have gg : 0 ≤ pl := by omega
       have HV : Hid (v = false) := by show _ = _; rw [← hv]; unfold xvg; rw [if_neg (by decide), if_neg (by decide), if_neg (by decide), if_neg (by decide), if_pos rfl, E_ts.out, E_un.out, g0, g1]; rfl
       clear hv hn hu;go_wp2_with (first | (go_at_call 54; (with_reducible refine (xw5 HR0.out HM.out HT0.out true E_ts.out).mono ?_); rintro e z1 ⟨rfl, bn⟩; have HX1 := hid (HX0.out.below bn); have HT1 := hid (HT0.out.below bn); have HR1 := hid (HR0.out.below bn); have HB1 := hid (xqa HB0.out bn); have x1_5 := HX1.out.cell (k := 5) (v := .string un) rfl; clear bn) | (go_at_call 103; (with_reducible refine (yj6 un Hun.out HT1.out true E_un.out).mono ?_); rintro e z2 ⟨rfl, bn⟩; have HX2 := hid (HX1.out.below bn); have HT2 := hid (HT1.out.below bn); have HR2 := hid (HR1.out.below bn); have HB2 := hid (xqa HB1.out bn); have x2_7 := HX2.out.cell (k := 7) (v := .int .i64 pl) rfl; clear bn));go_ret
       exact ⟨by rw [HV.out]; rfl, HB2.out⟩
set_option maxRecDepth 100000 in
theorem wFits0_c (k : Int) (hk : k ≠ 1 ∧ k ≠ 2 ∧ k ≠ 3 ∧ k ≠ 4 ∧ k ≠ 5) (nm ot nu va un : ByteArray) {A : Option Addr} {n c : Nat} {ts : List Nd} (pl at1 : Int) {w : World} (h : TreR w A n c ts) (hm : Mild ts) (hs : nm.size ≤ 1000000 ∧ ot.size ≤ 1000000 ∧ nu.size ≤ 1000000 ∧ va.size ≤ 1000000 ∧ un.size ≤ 1000000) (T : XTab w) (v : Bool) (hv : xvg k ot nu va un ts pl = v) :
 Calls Tryz.prog 63 #[.agg (dcC k nm ot nu va un A n c pl at1)] w fun e w' => e = .returned (.bool v) ∧ Below w.heap.size w w' := by
 obtain ⟨s1, s2, s3, s4, s5⟩ := hs;have Hot := hid s2;have Hnu := hid s3;have Hva := hid s4;have Hun := hid s5;have HM := hid hm;have HTw := hid T;clear s1 s2 s3 s4 s5 hm T;have bn := xqc w (.cells (dcC k nm ot nu va un A n c pl at1) 62);have h_rx := xqd w 62 (dcC k nm ot nu va un A n c pl at1);have HR0 := hid (h.below bn);have HT0 := hid (HTw.out.below bn);have HB0 := hid bn;clear h bn HTw;go_enter Tryz.func63, Tryz.ntmps63
 go_upto_region 1 with fail
 generalize w.alloc (.cells (dcC k nm ot nu va un A n c pl at1) 62) = z0 at *;obtain ⟨q_x, eg⟩ : ∃ g, g = w.heap.size := ⟨_, rfl⟩;rw [← eg] at h_rx ⊢;clear eg;have HX0 := hid h_rx;clear h_rx;have x0_0 := HX0.out.cell (k := 0) (v := .int .i64 k) rfl;have HV : Hid (v = false) := by show _ = _; rw [← hv]; unfold xvg; rw [if_neg hk.1, if_neg hk.2.1, if_neg hk.2.2.1, if_neg hk.2.2.2.1, if_neg hk.2.2.2.2]
 clear hv;obtain ⟨g1, g2, g3, g4, g5⟩ := hk;have e1 : (k == 1) = false := by rw [beq_eq_false_iff_ne]; exact g1
 have e2 : (k == 2) = false := by rw [beq_eq_false_iff_ne]; exact g2
 have e3 : (k == 3) = false := by rw [beq_eq_false_iff_ne]; exact g3
 have e4 : (k == 4) = false := by rw [beq_eq_false_iff_ne]; exact g4
 have e5 : (k == 5) = false := by rw [beq_eq_false_iff_ne]; exact g5
 clear g1 g2 g3 g4 g5;go_wp2
 go_ret
 exact ⟨by rw [HV.out]; rfl, HB0.out⟩
theorem yvv (k : Int) (nm ot nu va un : ByteArray) {A : Option Addr} {n c : Nat} {ts : List Nd} (pl at1 : Int) {w : World} (h : TreR w A n c ts) (hm : Mild ts) (hs : nm.size ≤ 1000000 ∧ ot.size ≤ 1000000 ∧ nu.size ≤ 1000000 ∧ va.size ≤ 1000000 ∧ un.size ≤ 1000000) (T : XTab w) (v : Bool) (hv : xvg k ot nu va un ts pl = v) :
 Calls Tryz.prog 63 #[.agg (dcC k nm ot nu va un A n c pl at1)] w fun e w' => e = .returned (.bool v) ∧ Below w.heap.size w w' := by
 by_cases k1 : k = 1
 · subst k1; exact wFits1_c nm ot nu va un pl at1 h hm hs T v hv
 · by_cases k2 : k = 2
   · subst k2; exact wFits2_c nm ot nu va un pl at1 h hm hs T v hv
   · by_cases k3 : k = 3
     · subst k3; exact wFits3_c nm ot nu va un pl at1 h hm hs T v hv
     · by_cases k4 : k = 4
       · subst k4; exact wFits4_c nm ot nu va un pl at1 h hm hs T v hv
       · by_cases k5 : k = 5
         · subst k5; exact wFits5_c nm ot nu va un pl at1 h hm hs T v hv
         · exact wFits0_c k ⟨k1, k2, k3, k4, k5⟩ nm ot nu va un pl at1 h hm hs T v hv
set_option maxRecDepth 100000 in
theorem wGoodA_c {kk : Int} (nm ot nu va un : ByteArray) {A : Option Addr} {n c : Nat} {ts : List Nd} (pl at1 : Int) {w : World} (h : TreR w A n c ts) (hm : Mild ts) (hs : nm.size ≤ 1000000 ∧ ot.size ≤ 1000000 ∧ nu.size ≤ 1000000 ∧ va.size ≤ 1000000 ∧ un.size ≤ 1000000) (T : XTab w) (hn : xjn (bytesOf nm) = false) :
 Calls Tryz.prog 32 #[.agg (dcC kk nm ot nu va un A n c pl at1)] w fun e w' => e = .returned (.bool false) ∧ Below w.heap.size w w' := by
 have E_nm := hid hn;clear hn;have HM := hid hm;have HS := hid hs;have bn := xqc w (.cells (dcC kk nm ot nu va un A n c pl at1) 62);have h_rx := xqd w 62 (dcC kk nm ot nu va un A n c pl at1);have HR0 := hid (h.below bn);have HT0 := hid (T.below bn);have HB0 := hid bn;have HMn : Hid (xq7 Tryz.prog 62 (dcC kk nm ot nu va un A n c pl at1).size) := xq3 _ _ _ _ _ _ _ _ _ _ _;clear h bn T hm hs;go_enter Tryz.func32, Tryz.ntmps32
 go_upto_region 1 with fail
 generalize w.alloc (.cells (dcC kk nm ot nu va un A n c pl at1) 62) = wS at *;obtain ⟨q_x, eg⟩ : ∃ g, g = w.heap.size := ⟨_, rfl⟩;rw [← eg] at h_rx ⊢;clear eg;have HX0 := hid h_rx;clear h_rx;go_wp2_with fail
 refine xzo 13 1 [3, 4, 5, 6, 7, 8, 9, 10, 11, 12, 13, 14, 15] ?aF1 (fun wx => Below wS.heap.size wS wx) (fun k vv wx => match k with
  | 0 => vv = .pointer (some ⟨q_x, 1, none⟩)
  | 1 => vv = .string nm
  | 2 => vv = .bool false
  | 3 => vv = .bool false
  | 4 => vv = undef
  | 5 => vv = undef
  | 6 => vv = .bool false
  | 7 => vv = .bool false
  | 8 => vv = undef
  | 9 => vv = undef
  | 10 => vv = undef
  | 11 => vv = undef
  | _ => vv = .bool false)
  (fun k => false) (by kernel_rfl) ?haF1 rfl (by kernel_rfl) (by kernel_rfl) (fun _ _ _ _ _ h => h) ?hSb1 ?hPb1 ?hS1 ?hop1 ?hfin1
 case haF1 =>
  intro vals;simp only [xqx, List.getElem?_cons_zero, List.getElem?_cons_succ, Act.put, List.setIfInBounds_toArray, List.set_cons_zero, List.set_cons_succ];exact rfl
 case hSb1 => exact fun wx w2 hb hS => xqa hS hb
 case hPb1 =>
  intro k v wa wb hb h
  match k, h with
  | 0, h => exact h
  | 1, h => exact h
  | 2, h => exact h
  | 3, h => exact h
  | 4, h => exact h
  | 5, h => exact h
  | 6, h => exact h
  | 7, h => exact h
  | 8, h => exact h
  | 9, h => exact h
  | 10, h => exact h
  | 11, h => exact h
  | _ + 12, h => exact h
 case hS1 => exact (Below.refl _ _).drew
 case hop1 =>
  refine .cons (k := 0) (.plain rfl ?_) (.cons (k := 1) (.plain rfl ?_) (.cons (k := 2) (.plain rfl ?_) (.cons (k := 3) (.plain rfl ?_) (.cons (k := 4) (.inr ⟨3, true, rfl, fun vals wr hS hd => hd 3 (by decide +kernel), fun _ _ => rfl, rfl⟩) (.cons (k := 5) (.inr ⟨3, true, rfl, fun vals wr hS hd => hd 3 (by decide +kernel), fun _ _ => rfl, rfl⟩) (.cons (k := 6) (.plain rfl ?_) (.cons (k := 7) (.plain rfl ?_) (.cons (k := 8) (.inr ⟨7, true, rfl, fun vals wr hS hd => hd 7 (by decide +kernel), fun _ _ => rfl, rfl⟩) (.cons (k := 9) (.inr ⟨7, true, rfl, fun vals wr hS hd => hd 7 (by decide +kernel), fun _ _ => rfl, rfl⟩) (.cons (k := 10) (.inr ⟨7, true, rfl, fun vals wr hS hd => hd 7 (by decide +kernel), fun _ _ => rfl, rfl⟩) (.cons (k := 11) (.inr ⟨7, true, rfl, fun vals wr hS hd => hd 7 (by decide +kernel), fun _ _ => rfl, rfl⟩) (.cons (k := 12) (.plain rfl ?_) (.nil)))))))))))))
  all_goals intro vals wr hS hd KC hK
  all_goals (show Oper.wp _ _ _ _ _ _; dsimp only)
  · go_simp;refine hK _ _ rfl (Below.refl _ _) (by first | rfl | simp) (fun h => by cases h)
  · have d0 : vals 0 = _ := hd 0 (by decide +kernel);rw [d0];have z0 := (HX0.out.below hS).cell (k := 1) (v := .string nm) rfl;go_simp;refine hK _ _ rfl (Below.refl _ _) (by first | rfl | simp) (fun h => by cases h)
  · have d1 : vals 1 = _ := hd 1 (by decide +kernel);rw [d1];go_simp;go_at_call 62
    with_reducible refine (xj0 nm (by have := HS.out.1; omega) wr (HT0.out.below hS).nt false E_nm.out).mono ?_
    rintro e w2 ⟨rfl, rfl⟩;refine hK _ _ rfl (Below.refl _ _) rfl (fun h => by cases h)
  · have d2 : vals 2 = _ := hd 2 (by decide +kernel);rw [d2];go_simp;refine hK _ _ rfl (Below.refl _ _) (by first | rfl | simp) (fun h => by cases h)
  · have d3 : vals 3 = _ := hd 3 (by decide +kernel);rw [d3];go_simp;refine hK _ _ rfl (Below.refl _ _) (by first | rfl | simp) (fun h => by cases h)
  · have d6 : vals 6 = _ := hd 6 (by decide +kernel);rw [d6];go_simp;refine hK _ _ rfl (Below.refl _ _) (by first | rfl | simp) (fun h => by cases h)
  · have d7 : vals 7 = _ := hd 7 (by decide +kernel);rw [d7];go_simp;refine hK _ _ rfl (Below.refl _ _) (by first | rfl | simp) (fun h => by cases h)
 case hfin1 =>
  intro vals wr hS hP hne;have ez_12 : vals 12 = _ := hP 12 (by decide)
  try dsimp only
  rw [ez_12];refine wpAny_ready (rs := [13]) (by kernel_rfl) (by simp) (AllReady.cons rfl (fun KC hK => ?_) AllReady.nil);go_simp;refine hK _ _ ?_;clear hK KC;refine wpAny_done (by kernel_rfl) ?_ _;go_wp2
  have HB2 := hid (xqa HB0.out hS);clear hS hP hne;go_ret
  exact ⟨rfl, HB2.out⟩
set_option maxRecDepth 100000 in
theorem wGoodB_c {kk : Int} (nm ot nu va un : ByteArray) {A : Option Addr} {n c : Nat} {ts : List Nd} (pl at1 : Int) {w : World} (h : TreR w A n c ts) (hm : Mild ts) (hs : nm.size ≤ 1000000 ∧ ot.size ≤ 1000000 ∧ nu.size ≤ 1000000 ∧ va.size ≤ 1000000 ∧ un.size ≤ 1000000) (T : XTab w) (hn : xjn (bytesOf nm) = true) (hf : xvg kk ot nu va un ts pl = false) :
 Calls Tryz.prog 32 #[.agg (dcC kk nm ot nu va un A n c pl at1)] w fun e w' => e = .returned (.bool false) ∧ Below w.heap.size w w' := by
 have E_nm := hid hn;have E_ft := hid hf;clear hn hf;have HM := hid hm;have HS := hid hs;have bn := xqc w (.cells (dcC kk nm ot nu va un A n c pl at1) 62);have h_rx := xqd w 62 (dcC kk nm ot nu va un A n c pl at1);have HR0 := hid (h.below bn);have HT0 := hid (T.below bn);have HB0 := hid bn;have HMn : Hid (xq7 Tryz.prog 62 (dcC kk nm ot nu va un A n c pl at1).size) := xq3 _ _ _ _ _ _ _ _ _ _ _;clear h bn T hm hs;go_enter Tryz.func32, Tryz.ntmps32
 go_upto_region 1 with fail
 generalize w.alloc (.cells (dcC kk nm ot nu va un A n c pl at1) 62) = wS at *;obtain ⟨q_x, eg⟩ : ∃ g, g = w.heap.size := ⟨_, rfl⟩;rw [← eg] at h_rx ⊢;clear eg;have HX0 := hid h_rx;clear h_rx;go_wp2_with fail
 refine xzo 13 1 [3, 4, 5, 6, 7, 8, 9, 10, 11, 12, 13, 14, 15] ?aF2 (fun wx => Below wS.heap.size wS wx) (fun k vv wx => match k with
  | 0 => vv = .pointer (some ⟨q_x, 1, none⟩)
  | 1 => vv = .string nm
  | 2 => vv = .bool true
  | 3 => vv = .bool true
  | 4 => vv = .agg (dcC kk nm ot nu va un A n c pl at1)
  | 5 => vv = .bool false
  | 6 => vv = .bool false
  | 7 => vv = .bool false
  | 8 => vv = undef
  | 9 => vv = undef
  | 10 => vv = undef
  | 11 => vv = undef
  | _ => vv = .bool false)
  (fun k => false) (by kernel_rfl) ?haF2 rfl (by kernel_rfl) (by kernel_rfl) (fun _ _ _ _ _ h => h) ?hSb2 ?hPb2 ?hS2 ?hop2 ?hfin2
 case haF2 =>
  intro vals;simp only [xqx, List.getElem?_cons_zero, List.getElem?_cons_succ, Act.put, List.setIfInBounds_toArray, List.set_cons_zero, List.set_cons_succ];exact rfl
 case hSb2 => exact fun wx w2 hb hS => xqa hS hb
 case hPb2 =>
  intro k v wa wb hb h
  match k, h with
  | 0, h => exact h
  | 1, h => exact h
  | 2, h => exact h
  | 3, h => exact h
  | 4, h => exact h
  | 5, h => exact h
  | 6, h => exact h
  | 7, h => exact h
  | 8, h => exact h
  | 9, h => exact h
  | 10, h => exact h
  | 11, h => exact h
  | _ + 12, h => exact h
 case hS2 => exact (Below.refl _ _).drew
 case hop2 =>
  refine .cons (k := 0) (.plain rfl ?_) (.cons (k := 1) (.plain rfl ?_) (.cons (k := 2) (.plain rfl ?_) (.cons (k := 3) (.plain rfl ?_) (.cons (k := 4) (.yes (fun vals wr hS hd g b e => by cases e; exact hd 3 (by decide +kernel)) ?_) (.cons (k := 5) (.yes (fun vals wr hS hd g b e => by cases e; exact hd 3 (by decide +kernel)) ?_) (.cons (k := 6) (.plain rfl ?_) (.cons (k := 7) (.plain rfl ?_) (.cons (k := 8) (.inr ⟨7, true, rfl, fun vals wr hS hd => hd 7 (by decide +kernel), fun _ _ => rfl, rfl⟩) (.cons (k := 9) (.inr ⟨7, true, rfl, fun vals wr hS hd => hd 7 (by decide +kernel), fun _ _ => rfl, rfl⟩) (.cons (k := 10) (.inr ⟨7, true, rfl, fun vals wr hS hd => hd 7 (by decide +kernel), fun _ _ => rfl, rfl⟩) (.cons (k := 11) (.inr ⟨7, true, rfl, fun vals wr hS hd => hd 7 (by decide +kernel), fun _ _ => rfl, rfl⟩) (.cons (k := 12) (.plain rfl ?_) (.nil)))))))))))))
  all_goals intro vals wr hS hd KC hK
  all_goals (show Oper.wp _ _ _ _ _ _; dsimp only)
  · go_simp;refine hK _ _ rfl (Below.refl _ _) (by first | rfl | simp) (fun h => by cases h)
  · have d0 : vals 0 = _ := hd 0 (by decide +kernel);rw [d0];have z0 := (HX0.out.below hS).cell (k := 1) (v := .string nm) rfl;go_simp;refine hK _ _ rfl (Below.refl _ _) (by first | rfl | simp) (fun h => by cases h)
  · have d1 : vals 1 = _ := hd 1 (by decide +kernel);rw [d1];go_simp;go_at_call 62
    with_reducible refine (xj0 nm (by have := HS.out.1; omega) wr (HT0.out.below hS).nt true E_nm.out).mono ?_
    rintro e w2 ⟨rfl, rfl⟩;refine hK _ _ rfl (Below.refl _ _) rfl (fun h => by cases h)
  · have d2 : vals 2 = _ := hd 2 (by decide +kernel);rw [d2];go_simp;refine hK _ _ rfl (Below.refl _ _) (by first | rfl | simp) (fun h => by cases h)
  · refine xq1 62 _ rfl _ _ rfl (dcC kk nm ot nu va un A n c pl at1) (hid (RowA.inV (HX0.out.below hS))) HMn ?_;refine hK _ _ rfl (Below.refl _ _) (by first | rfl | simp) (fun h => by cases h)
  · have d4 : vals 4 = _ := hd 4 (by decide +kernel);rw [d4];go_simp;go_at_call 63
    with_reducible refine (yvv kk nm ot nu va un pl at1 (HR0.out.below hS) HM.out HS.out (HT0.out.below hS) false E_ft.out).mono ?_
    rintro e w2 ⟨rfl, bn_r⟩;refine hK _ _ rfl bn_r rfl (fun h => by cases h)
  · have d3 : vals 3 = _ := hd 3 (by decide +kernel);have d5 : vals 5 = _ := hd 5 (by decide +kernel);rw [d3, d5];go_simp;refine hK _ _ rfl (Below.refl _ _) (by first | rfl | simp) (fun h => by cases h)
  · have d6 : vals 6 = _ := hd 6 (by decide +kernel);rw [d6];go_simp;refine hK _ _ rfl (Below.refl _ _) (by first | rfl | simp) (fun h => by cases h)
  · have d7 : vals 7 = _ := hd 7 (by decide +kernel);rw [d7];go_simp;refine hK _ _ rfl (Below.refl _ _) (by first | rfl | simp) (fun h => by cases h)
 case hfin2 =>
  intro vals wr hS hP hne;have ez_12 : vals 12 = _ := hP 12 (by decide)
  try dsimp only
  rw [ez_12];refine wpAny_ready (rs := [13]) (by kernel_rfl) (by simp) (AllReady.cons rfl (fun KC hK => ?_) AllReady.nil);go_simp;refine hK _ _ ?_;clear hK KC;refine wpAny_done (by kernel_rfl) ?_ _;go_wp2
  have HB2 := hid (xqa HB0.out hS);clear hS hP hne;go_ret
  exact ⟨rfl, HB2.out⟩
set_option maxRecDepth 100000 in
theorem wGood1_c (nm ot nu va un : ByteArray) {A : Option Addr} {n c : Nat} {ts : List Nd} (pl at1 : Int) {w : World} (h : TreR w A n c ts) (hm : Mild ts) (hs : nm.size ≤ 1000000 ∧ ot.size ≤ 1000000 ∧ nu.size ≤ 1000000 ∧ va.size ≤ 1000000 ∧ un.size ≤ 1000000) (T : XTab w) (hn : xjn (bytesOf nm) = true) (hf : xvg 1 ot nu va un ts pl = true) (v : Bool) (hv : (samB 1 1 nm nm ot ⟨#[]⟩ nu nu va ⟨#[]⟩ un un pl 0 ts []) = v) :
 Calls Tryz.prog 32 #[.agg (dcC 1 nm ot nu va un A n c pl at1)] w fun e w' => e = .returned (.bool v) ∧ Below w.heap.size w w' := by
 have E_nm := hid hn;have E_ft := hid hf;have E_sm := hid hv;clear hn hf hv;have HM := hid hm;have HS := hid hs;have bn := xqc w (.cells (dcC 1 nm ot nu va un A n c pl at1) 62);have h_rx := xqd w 62 (dcC 1 nm ot nu va un A n c pl at1);have HR0 := hid (h.below bn);have HT0 := hid (T.below bn);have HB0 := hid bn;have HMn : Hid (xq7 Tryz.prog 62 (dcC 1 nm ot nu va un A n c pl at1).size) := xq3 _ _ _ _ _ _ _ _ _ _ _;clear h bn T hm hs;go_enter Tryz.func32, Tryz.ntmps32
 go_upto_region 1 with fail
 generalize w.alloc (.cells (dcC 1 nm ot nu va un A n c pl at1) 62) = wS at *;obtain ⟨q_x, eg⟩ : ∃ g, g = w.heap.size := ⟨_, rfl⟩;rw [← eg] at h_rx ⊢;clear eg;have HX0 := hid h_rx;clear h_rx;go_wp2_with fail
 refine xzo 13 1 [3, 4, 5, 6, 7, 8, 9, 10, 11, 12, 13, 14, 15] ?aF3 (fun wx => Below wS.heap.size wS wx) (fun k vv wx => match k with
  | 0 => vv = .pointer (some ⟨q_x, 1, none⟩)
  | 1 => vv = .string nm
  | 2 => vv = .bool true
  | 3 => vv = .bool true
  | 4 => vv = .agg (dcC 1 nm ot nu va un A n c pl at1)
  | 5 => vv = .bool true
  | 6 => vv = .bool true
  | 7 => vv = .bool true
  | 8 => vv = .agg (dcC 1 nm ot nu va un A n c pl at1)
  | 9 => vv = .agg (dcC 1 nm ot nu va un A n c pl at1)
  | 10 => vv = .agg (dcC 1 nm ⟨#[]⟩ nu ⟨#[]⟩ un none 0 0 0 0)
  | 11 => vv = .bool v
  | _ => vv = .bool v)
  (fun k => false) (by kernel_rfl) ?haF3 rfl (by kernel_rfl) (by kernel_rfl) (fun _ _ _ _ _ h => h) ?hSb3 ?hPb3 ?hS3 ?hop3 ?hfin3
 case haF3 =>
  intro vals;simp only [xqx, List.getElem?_cons_zero, List.getElem?_cons_succ, Act.put, List.setIfInBounds_toArray, List.set_cons_zero, List.set_cons_succ];exact rfl
 case hSb3 => exact fun wx w2 hb hS => xqa hS hb
 case hPb3 =>
  intro k v wa wb hb h
  match k, h with
  | 0, h => exact h
  | 1, h => exact h
  | 2, h => exact h
  | 3, h => exact h
  | 4, h => exact h
  | 5, h => exact h
  | 6, h => exact h
  | 7, h => exact h
  | 8, h => exact h
  | 9, h => exact h
  | 10, h => exact h
  | 11, h => exact h
  | _ + 12, h => exact h
 case hS3 => exact (Below.refl _ _).drew
 case hop3 =>
  refine .cons (k := 0) (.plain rfl ?_) (.cons (k := 1) (.plain rfl ?_) (.cons (k := 2) (.plain rfl ?_) (.cons (k := 3) (.plain rfl ?_) (.cons (k := 4) (.yes (fun vals wr hS hd g b e => by cases e; exact hd 3 (by decide +kernel)) ?_) (.cons (k := 5) (.yes (fun vals wr hS hd g b e => by cases e; exact hd 3 (by decide +kernel)) ?_) (.cons (k := 6) (.plain rfl ?_) (.cons (k := 7) (.plain rfl ?_) (.cons (k := 8) (.yes (fun vals wr hS hd g b e => by cases e; exact hd 7 (by decide +kernel)) ?_) (.cons (k := 9) (.yes (fun vals wr hS hd g b e => by cases e; exact hd 7 (by decide +kernel)) ?_) (.cons (k := 10) (.yes (fun vals wr hS hd g b e => by cases e; exact hd 7 (by decide +kernel)) ?_) (.cons (k := 11) (.yes (fun vals wr hS hd g b e => by cases e; exact hd 7 (by decide +kernel)) ?_) (.cons (k := 12) (.plain rfl ?_) (.nil)))))))))))))
  all_goals intro vals wr hS hd KC hK
  all_goals (show Oper.wp _ _ _ _ _ _; dsimp only)
  · go_simp;refine hK _ _ rfl (Below.refl _ _) (by first | rfl | simp) (fun h => by cases h)
  · have d0 : vals 0 = _ := hd 0 (by decide +kernel);rw [d0];have z0 := (HX0.out.below hS).cell (k := 1) (v := .string nm) rfl;go_simp;refine hK _ _ rfl (Below.refl _ _) (by first | rfl | simp) (fun h => by cases h)
  · have d1 : vals 1 = _ := hd 1 (by decide +kernel);rw [d1];go_simp;go_at_call 62
    with_reducible refine (xj0 nm (by have := HS.out.1; omega) wr (HT0.out.below hS).nt true E_nm.out).mono ?_
    rintro e w2 ⟨rfl, rfl⟩;refine hK _ _ rfl (Below.refl _ _) rfl (fun h => by cases h)
  · have d2 : vals 2 = _ := hd 2 (by decide +kernel);rw [d2];go_simp;refine hK _ _ rfl (Below.refl _ _) (by first | rfl | simp) (fun h => by cases h)
  · refine xq1 62 _ rfl _ _ rfl (dcC 1 nm ot nu va un A n c pl at1) (hid (RowA.inV (HX0.out.below hS))) HMn ?_;refine hK _ _ rfl (Below.refl _ _) (by first | rfl | simp) (fun h => by cases h)
  · have d4 : vals 4 = _ := hd 4 (by decide +kernel);rw [d4];go_simp;go_at_call 63
    with_reducible refine (yvv 1 nm ot nu va un pl at1 (HR0.out.below hS) HM.out HS.out (HT0.out.below hS) true E_ft.out).mono ?_
    rintro e w2 ⟨rfl, bn_r⟩;refine hK _ _ rfl bn_r rfl (fun h => by cases h)
  · have d3 : vals 3 = _ := hd 3 (by decide +kernel);have d5 : vals 5 = _ := hd 5 (by decide +kernel);rw [d3, d5];go_simp;refine hK _ _ rfl (Below.refl _ _) (by first | rfl | simp) (fun h => by cases h)
  · have d6 : vals 6 = _ := hd 6 (by decide +kernel);rw [d6];go_simp;refine hK _ _ rfl (Below.refl _ _) (by first | rfl | simp) (fun h => by cases h)
  · refine xq1 62 _ rfl _ _ rfl (dcC 1 nm ot nu va un A n c pl at1) (hid (RowA.inV (HX0.out.below hS))) HMn ?_;refine hK _ _ rfl (Below.refl _ _) (by first | rfl | simp) (fun h => by cases h)
  · refine xq1 62 _ rfl _ _ rfl (dcC 1 nm ot nu va un A n c pl at1) (hid (RowA.inV (HX0.out.below hS))) HMn ?_;refine hK _ _ rfl (Below.refl _ _) (by first | rfl | simp) (fun h => by cases h)
  · have d9 : vals 9 = _ := hd 9 (by decide +kernel);rw [d9];go_simp;go_at_call 65
    with_reducible refine (wOwn1_c nm ot nu va un A n c pl at1 wr).mono ?_
    rintro e w2 ⟨rfl, bn_r⟩;refine hK _ _ rfl bn_r rfl (fun h => by cases h)
  · have d8 : vals 8 = _ := hd 8 (by decide +kernel);have d10 : vals 10 = _ := hd 10 (by decide +kernel);rw [d8, d10];go_simp;go_at_call 64
    with_reducible refine (yjk (HR0.out.below hS) (TreR.nil wr (Nat.zero_le _)) v E_sm.out).mono ?_
    rintro e w2 ⟨rfl, bn_r⟩;refine hK _ _ rfl bn_r rfl (fun h => by cases h)
  · have d7 : vals 7 = _ := hd 7 (by decide +kernel);have d11 : vals 11 = _ := hd 11 (by decide +kernel);rw [d7, d11];go_simp;refine hK _ _ rfl (Below.refl _ _) (by first | rfl | simp) (fun h => by cases h)
 case hfin3 =>
  intro vals wr hS hP hne;have ez_12 : vals 12 = _ := hP 12 (by decide)
  try dsimp only
  rw [ez_12];refine wpAny_ready (rs := [13]) (by kernel_rfl) (by simp) (AllReady.cons rfl (fun KC hK => ?_) AllReady.nil);go_simp;refine hK _ _ ?_;clear hK KC;refine wpAny_done (by kernel_rfl) ?_ _;go_wp2
  have HB2 := hid (xqa HB0.out hS);clear hS hP hne;go_ret
  exact ⟨rfl, HB2.out⟩
set_option maxRecDepth 100000 in
theorem wGood2_c (nm ot nu va un : ByteArray) {A : Option Addr} {n c : Nat} {ts : List Nd} (pl at1 : Int) {w : World} (h : TreR w A n c ts) (hm : Mild ts) (hs : nm.size ≤ 1000000 ∧ ot.size ≤ 1000000 ∧ nu.size ≤ 1000000 ∧ va.size ≤ 1000000 ∧ un.size ≤ 1000000) (T : XTab w) (hn : xjn (bytesOf nm) = true) (hf : xvg 2 ot nu va un ts pl = true) (v : Bool) (hv : (samB 2 2 nm nm ot ⟨#[]⟩ nu nu va va un un pl 0 ts []) = v) :
 Calls Tryz.prog 32 #[.agg (dcC 2 nm ot nu va un A n c pl at1)] w fun e w' => e = .returned (.bool v) ∧ Below w.heap.size w w' := by
 have E_nm := hid hn;have E_ft := hid hf;have E_sm := hid hv;clear hn hf hv;have HM := hid hm;have HS := hid hs;have bn := xqc w (.cells (dcC 2 nm ot nu va un A n c pl at1) 62);have h_rx := xqd w 62 (dcC 2 nm ot nu va un A n c pl at1);have HR0 := hid (h.below bn);have HT0 := hid (T.below bn);have HB0 := hid bn;have HMn : Hid (xq7 Tryz.prog 62 (dcC 2 nm ot nu va un A n c pl at1).size) := xq3 _ _ _ _ _ _ _ _ _ _ _;clear h bn T hm hs;go_enter Tryz.func32, Tryz.ntmps32
 go_upto_region 1 with fail
 generalize w.alloc (.cells (dcC 2 nm ot nu va un A n c pl at1) 62) = wS at *;obtain ⟨q_x, eg⟩ : ∃ g, g = w.heap.size := ⟨_, rfl⟩;rw [← eg] at h_rx ⊢;clear eg;have HX0 := hid h_rx;clear h_rx;go_wp2_with fail
 refine xzo 13 1 [3, 4, 5, 6, 7, 8, 9, 10, 11, 12, 13, 14, 15] ?aF4 (fun wx => Below wS.heap.size wS wx) (fun k vv wx => match k with
  | 0 => vv = .pointer (some ⟨q_x, 1, none⟩)
  | 1 => vv = .string nm
  | 2 => vv = .bool true
  | 3 => vv = .bool true
  | 4 => vv = .agg (dcC 2 nm ot nu va un A n c pl at1)
  | 5 => vv = .bool true
  | 6 => vv = .bool true
  | 7 => vv = .bool true
  | 8 => vv = .agg (dcC 2 nm ot nu va un A n c pl at1)
  | 9 => vv = .agg (dcC 2 nm ot nu va un A n c pl at1)
  | 10 => vv = .agg (dcC 2 nm ⟨#[]⟩ nu va un none 0 0 0 0)
  | 11 => vv = .bool v
  | _ => vv = .bool v)
  (fun k => false) (by kernel_rfl) ?haF4 rfl (by kernel_rfl) (by kernel_rfl) (fun _ _ _ _ _ h => h) ?hSb4 ?hPb4 ?hS4 ?hop4 ?hfin4
 case haF4 =>
  intro vals;simp only [xqx, List.getElem?_cons_zero, List.getElem?_cons_succ, Act.put, List.setIfInBounds_toArray, List.set_cons_zero, List.set_cons_succ];exact rfl
 case hSb4 => exact fun wx w2 hb hS => xqa hS hb
 case hPb4 =>
  intro k v wa wb hb h
  match k, h with
  | 0, h => exact h
  | 1, h => exact h
  | 2, h => exact h
  | 3, h => exact h
  | 4, h => exact h
  | 5, h => exact h
  | 6, h => exact h
  | 7, h => exact h
  | 8, h => exact h
  | 9, h => exact h
  | 10, h => exact h
  | 11, h => exact h
  | _ + 12, h => exact h
 case hS4 => exact (Below.refl _ _).drew
 case hop4 =>
  refine .cons (k := 0) (.plain rfl ?_) (.cons (k := 1) (.plain rfl ?_) (.cons (k := 2) (.plain rfl ?_) (.cons (k := 3) (.plain rfl ?_) (.cons (k := 4) (.yes (fun vals wr hS hd g b e => by cases e; exact hd 3 (by decide +kernel)) ?_) (.cons (k := 5) (.yes (fun vals wr hS hd g b e => by cases e; exact hd 3 (by decide +kernel)) ?_) (.cons (k := 6) (.plain rfl ?_) (.cons (k := 7) (.plain rfl ?_) (.cons (k := 8) (.yes (fun vals wr hS hd g b e => by cases e; exact hd 7 (by decide +kernel)) ?_) (.cons (k := 9) (.yes (fun vals wr hS hd g b e => by cases e; exact hd 7 (by decide +kernel)) ?_) (.cons (k := 10) (.yes (fun vals wr hS hd g b e => by cases e; exact hd 7 (by decide +kernel)) ?_) (.cons (k := 11) (.yes (fun vals wr hS hd g b e => by cases e; exact hd 7 (by decide +kernel)) ?_) (.cons (k := 12) (.plain rfl ?_) (.nil)))))))))))))
  all_goals intro vals wr hS hd KC hK
  all_goals (show Oper.wp _ _ _ _ _ _; dsimp only)
  · go_simp;refine hK _ _ rfl (Below.refl _ _) (by first | rfl | simp) (fun h => by cases h)
  · have d0 : vals 0 = _ := hd 0 (by decide +kernel);rw [d0];have z0 := (HX0.out.below hS).cell (k := 1) (v := .string nm) rfl;go_simp;refine hK _ _ rfl (Below.refl _ _) (by first | rfl | simp) (fun h => by cases h)
  · have d1 : vals 1 = _ := hd 1 (by decide +kernel);rw [d1];go_simp;go_at_call 62
    with_reducible refine (xj0 nm (by have := HS.out.1; omega) wr (HT0.out.below hS).nt true E_nm.out).mono ?_
    rintro e w2 ⟨rfl, rfl⟩;refine hK _ _ rfl (Below.refl _ _) rfl (fun h => by cases h)
  · have d2 : vals 2 = _ := hd 2 (by decide +kernel);rw [d2];go_simp;refine hK _ _ rfl (Below.refl _ _) (by first | rfl | simp) (fun h => by cases h)
  · refine xq1 62 _ rfl _ _ rfl (dcC 2 nm ot nu va un A n c pl at1) (hid (RowA.inV (HX0.out.below hS))) HMn ?_;refine hK _ _ rfl (Below.refl _ _) (by first | rfl | simp) (fun h => by cases h)
  · have d4 : vals 4 = _ := hd 4 (by decide +kernel);rw [d4];go_simp;go_at_call 63
    with_reducible refine (yvv 2 nm ot nu va un pl at1 (HR0.out.below hS) HM.out HS.out (HT0.out.below hS) true E_ft.out).mono ?_
    rintro e w2 ⟨rfl, bn_r⟩;refine hK _ _ rfl bn_r rfl (fun h => by cases h)
  · have d3 : vals 3 = _ := hd 3 (by decide +kernel);have d5 : vals 5 = _ := hd 5 (by decide +kernel);rw [d3, d5];go_simp;refine hK _ _ rfl (Below.refl _ _) (by first | rfl | simp) (fun h => by cases h)
  · have d6 : vals 6 = _ := hd 6 (by decide +kernel);rw [d6];go_simp;refine hK _ _ rfl (Below.refl _ _) (by first | rfl | simp) (fun h => by cases h)
  · refine xq1 62 _ rfl _ _ rfl (dcC 2 nm ot nu va un A n c pl at1) (hid (RowA.inV (HX0.out.below hS))) HMn ?_;refine hK _ _ rfl (Below.refl _ _) (by first | rfl | simp) (fun h => by cases h)
  · refine xq1 62 _ rfl _ _ rfl (dcC 2 nm ot nu va un A n c pl at1) (hid (RowA.inV (HX0.out.below hS))) HMn ?_;refine hK _ _ rfl (Below.refl _ _) (by first | rfl | simp) (fun h => by cases h)
  · have d9 : vals 9 = _ := hd 9 (by decide +kernel);rw [d9];go_simp;go_at_call 65
    with_reducible refine (wOwn2_c nm ot nu va un A n c pl at1 wr).mono ?_
    rintro e w2 ⟨rfl, bn_r⟩;refine hK _ _ rfl bn_r rfl (fun h => by cases h)
  · have d8 : vals 8 = _ := hd 8 (by decide +kernel);have d10 : vals 10 = _ := hd 10 (by decide +kernel);rw [d8, d10];go_simp;go_at_call 64
    with_reducible refine (yjk (HR0.out.below hS) (TreR.nil wr (Nat.zero_le _)) v E_sm.out).mono ?_
    rintro e w2 ⟨rfl, bn_r⟩;refine hK _ _ rfl bn_r rfl (fun h => by cases h)
  · have d7 : vals 7 = _ := hd 7 (by decide +kernel);have d11 : vals 11 = _ := hd 11 (by decide +kernel);rw [d7, d11];go_simp;refine hK _ _ rfl (Below.refl _ _) (by first | rfl | simp) (fun h => by cases h)
 case hfin4 =>
  intro vals wr hS hP hne;have ez_12 : vals 12 = _ := hP 12 (by decide)
  try dsimp only
  rw [ez_12];refine wpAny_ready (rs := [13]) (by kernel_rfl) (by simp) (AllReady.cons rfl (fun KC hK => ?_) AllReady.nil);go_simp;refine hK _ _ ?_;clear hK KC;refine wpAny_done (by kernel_rfl) ?_ _;go_wp2
  have HB2 := hid (xqa HB0.out hS);clear hS hP hne;go_ret
  exact ⟨rfl, HB2.out⟩
set_option maxRecDepth 100000 in
theorem wGood3_c (nm ot nu va un : ByteArray) {A : Option Addr} {n c : Nat} {ts : List Nd} (pl at1 : Int) {w : World} (h : TreR w A n c ts) (hm : Mild ts) (hs : nm.size ≤ 1000000 ∧ ot.size ≤ 1000000 ∧ nu.size ≤ 1000000 ∧ va.size ≤ 1000000 ∧ un.size ≤ 1000000) (T : XTab w) (hn : xjn (bytesOf nm) = true) (hf : xvg 3 ot nu va un ts pl = true) (v : Bool) (hv : (samB 3 3 nm nm ot ot nu nu va ⟨#[]⟩ un ⟨#[]⟩ pl 0 ts []) = v) :
 Calls Tryz.prog 32 #[.agg (dcC 3 nm ot nu va un A n c pl at1)] w fun e w' => e = .returned (.bool v) ∧ Below w.heap.size w w' := by
 have E_nm := hid hn;have E_ft := hid hf;have E_sm := hid hv;clear hn hf hv;have HM := hid hm;have HS := hid hs;have bn := xqc w (.cells (dcC 3 nm ot nu va un A n c pl at1) 62);have h_rx := xqd w 62 (dcC 3 nm ot nu va un A n c pl at1);have HR0 := hid (h.below bn);have HT0 := hid (T.below bn);have HB0 := hid bn;have HMn : Hid (xq7 Tryz.prog 62 (dcC 3 nm ot nu va un A n c pl at1).size) := xq3 _ _ _ _ _ _ _ _ _ _ _;clear h bn T hm hs;go_enter Tryz.func32, Tryz.ntmps32
 go_upto_region 1 with fail
 generalize w.alloc (.cells (dcC 3 nm ot nu va un A n c pl at1) 62) = wS at *;obtain ⟨q_x, eg⟩ : ∃ g, g = w.heap.size := ⟨_, rfl⟩;rw [← eg] at h_rx ⊢;clear eg;have HX0 := hid h_rx;clear h_rx;go_wp2_with fail
 refine xzo 13 1 [3, 4, 5, 6, 7, 8, 9, 10, 11, 12, 13, 14, 15] ?aF5 (fun wx => Below wS.heap.size wS wx) (fun k vv wx => match k with
  | 0 => vv = .pointer (some ⟨q_x, 1, none⟩)
  | 1 => vv = .string nm
  | 2 => vv = .bool true
  | 3 => vv = .bool true
  | 4 => vv = .agg (dcC 3 nm ot nu va un A n c pl at1)
  | 5 => vv = .bool true
  | 6 => vv = .bool true
  | 7 => vv = .bool true
  | 8 => vv = .agg (dcC 3 nm ot nu va un A n c pl at1)
  | 9 => vv = .agg (dcC 3 nm ot nu va un A n c pl at1)
  | 10 => vv = .agg (dcC 3 nm ot nu ⟨#[]⟩ ⟨#[]⟩ none 0 0 0 0)
  | 11 => vv = .bool v
  | _ => vv = .bool v)
  (fun k => false) (by kernel_rfl) ?haF5 rfl (by kernel_rfl) (by kernel_rfl) (fun _ _ _ _ _ h => h) ?hSb5 ?hPb5 ?hS5 ?hop5 ?hfin5
 case haF5 =>
  intro vals;simp only [xqx, List.getElem?_cons_zero, List.getElem?_cons_succ, Act.put, List.setIfInBounds_toArray, List.set_cons_zero, List.set_cons_succ];exact rfl
 case hSb5 => exact fun wx w2 hb hS => xqa hS hb
 case hPb5 =>
  intro k v wa wb hb h
  match k, h with
  | 0, h => exact h
  | 1, h => exact h
  | 2, h => exact h
  | 3, h => exact h
  | 4, h => exact h
  | 5, h => exact h
  | 6, h => exact h
  | 7, h => exact h
  | 8, h => exact h
  | 9, h => exact h
  | 10, h => exact h
  | 11, h => exact h
  | _ + 12, h => exact h
 case hS5 => exact (Below.refl _ _).drew
 case hop5 =>
  refine .cons (k := 0) (.plain rfl ?_) (.cons (k := 1) (.plain rfl ?_) (.cons (k := 2) (.plain rfl ?_) (.cons (k := 3) (.plain rfl ?_) (.cons (k := 4) (.yes (fun vals wr hS hd g b e => by cases e; exact hd 3 (by decide +kernel)) ?_) (.cons (k := 5) (.yes (fun vals wr hS hd g b e => by cases e; exact hd 3 (by decide +kernel)) ?_) (.cons (k := 6) (.plain rfl ?_) (.cons (k := 7) (.plain rfl ?_) (.cons (k := 8) (.yes (fun vals wr hS hd g b e => by cases e; exact hd 7 (by decide +kernel)) ?_) (.cons (k := 9) (.yes (fun vals wr hS hd g b e => by cases e; exact hd 7 (by decide +kernel)) ?_) (.cons (k := 10) (.yes (fun vals wr hS hd g b e => by cases e; exact hd 7 (by decide +kernel)) ?_) (.cons (k := 11) (.yes (fun vals wr hS hd g b e => by cases e; exact hd 7 (by decide +kernel)) ?_) (.cons (k := 12) (.plain rfl ?_) (.nil)))))))))))))
  all_goals intro vals wr hS hd KC hK
  all_goals (show Oper.wp _ _ _ _ _ _; dsimp only)
  · go_simp;refine hK _ _ rfl (Below.refl _ _) (by first | rfl | simp) (fun h => by cases h)
  · have d0 : vals 0 = _ := hd 0 (by decide +kernel);rw [d0];have z0 := (HX0.out.below hS).cell (k := 1) (v := .string nm) rfl;go_simp;refine hK _ _ rfl (Below.refl _ _) (by first | rfl | simp) (fun h => by cases h)
  · have d1 : vals 1 = _ := hd 1 (by decide +kernel);rw [d1];go_simp;go_at_call 62
    with_reducible refine (xj0 nm (by have := HS.out.1; omega) wr (HT0.out.below hS).nt true E_nm.out).mono ?_
    rintro e w2 ⟨rfl, rfl⟩;refine hK _ _ rfl (Below.refl _ _) rfl (fun h => by cases h)
  · have d2 : vals 2 = _ := hd 2 (by decide +kernel);rw [d2];go_simp;refine hK _ _ rfl (Below.refl _ _) (by first | rfl | simp) (fun h => by cases h)
  · refine xq1 62 _ rfl _ _ rfl (dcC 3 nm ot nu va un A n c pl at1) (hid (RowA.inV (HX0.out.below hS))) HMn ?_;refine hK _ _ rfl (Below.refl _ _) (by first | rfl | simp) (fun h => by cases h)
  · have d4 : vals 4 = _ := hd 4 (by decide +kernel);rw [d4];go_simp;go_at_call 63
    with_reducible refine (yvv 3 nm ot nu va un pl at1 (HR0.out.below hS) HM.out HS.out (HT0.out.below hS) true E_ft.out).mono ?_
    rintro e w2 ⟨rfl, bn_r⟩;refine hK _ _ rfl bn_r rfl (fun h => by cases h)
  · have d3 : vals 3 = _ := hd 3 (by decide +kernel);have d5 : vals 5 = _ := hd 5 (by decide +kernel);rw [d3, d5];go_simp;refine hK _ _ rfl (Below.refl _ _) (by first | rfl | simp) (fun h => by cases h)
  · have d6 : vals 6 = _ := hd 6 (by decide +kernel);rw [d6];go_simp;refine hK _ _ rfl (Below.refl _ _) (by first | rfl | simp) (fun h => by cases h)
  · refine xq1 62 _ rfl _ _ rfl (dcC 3 nm ot nu va un A n c pl at1) (hid (RowA.inV (HX0.out.below hS))) HMn ?_;refine hK _ _ rfl (Below.refl _ _) (by first | rfl | simp) (fun h => by cases h)
  · refine xq1 62 _ rfl _ _ rfl (dcC 3 nm ot nu va un A n c pl at1) (hid (RowA.inV (HX0.out.below hS))) HMn ?_;refine hK _ _ rfl (Below.refl _ _) (by first | rfl | simp) (fun h => by cases h)
  · have d9 : vals 9 = _ := hd 9 (by decide +kernel);rw [d9];go_simp;go_at_call 65
    with_reducible refine (wOwn3_c nm ot nu va un A n c pl at1 wr).mono ?_
    rintro e w2 ⟨rfl, bn_r⟩;refine hK _ _ rfl bn_r rfl (fun h => by cases h)
  · have d8 : vals 8 = _ := hd 8 (by decide +kernel);have d10 : vals 10 = _ := hd 10 (by decide +kernel);rw [d8, d10];go_simp;go_at_call 64
    with_reducible refine (yjk (HR0.out.below hS) (TreR.nil wr (Nat.zero_le _)) v E_sm.out).mono ?_
    rintro e w2 ⟨rfl, bn_r⟩;refine hK _ _ rfl bn_r rfl (fun h => by cases h)
  · have d7 : vals 7 = _ := hd 7 (by decide +kernel);have d11 : vals 11 = _ := hd 11 (by decide +kernel);rw [d7, d11];go_simp;refine hK _ _ rfl (Below.refl _ _) (by first | rfl | simp) (fun h => by cases h)
 case hfin5 =>
  intro vals wr hS hP hne;have ez_12 : vals 12 = _ := hP 12 (by decide)
  try dsimp only
  rw [ez_12];refine wpAny_ready (rs := [13]) (by kernel_rfl) (by simp) (AllReady.cons rfl (fun KC hK => ?_) AllReady.nil);go_simp;refine hK _ _ ?_;clear hK KC;refine wpAny_done (by kernel_rfl) ?_ _;go_wp2
  have HB2 := hid (xqa HB0.out hS);clear hS hP hne;go_ret
  exact ⟨rfl, HB2.out⟩
set_option maxRecDepth 100000 in
theorem wGood4_c (nm ot nu va un : ByteArray) {A : Option Addr} {n c : Nat} {ts : List Nd} (pl at1 : Int) {w : World} (h : TreR w A n c ts) (hm : Mild ts) (hs : nm.size ≤ 1000000 ∧ ot.size ≤ 1000000 ∧ nu.size ≤ 1000000 ∧ va.size ≤ 1000000 ∧ un.size ≤ 1000000) (T : XTab w) (hn : xjn (bytesOf nm) = true) (hf : xvg 4 ot nu va un ts pl = true) (v : Bool) (hv : (samB 4 4 nm nm ot ⟨#[]⟩ nu ⟨#[]⟩ va ⟨#[]⟩ un ⟨#[]⟩ pl 0 ts ts) = v) :
 Calls Tryz.prog 32 #[.agg (dcC 4 nm ot nu va un A n c pl at1)] w fun e w' => e = .returned (.bool v) ∧ Below w.heap.size w w' := by
 have E_nm := hid hn;have E_ft := hid hf;have E_sm := hid hv;clear hn hf hv;have HM := hid hm;have HS := hid hs;have bn := xqc w (.cells (dcC 4 nm ot nu va un A n c pl at1) 62);have h_rx := xqd w 62 (dcC 4 nm ot nu va un A n c pl at1);have HR0 := hid (h.below bn);have HT0 := hid (T.below bn);have HB0 := hid bn;have HMn : Hid (xq7 Tryz.prog 62 (dcC 4 nm ot nu va un A n c pl at1).size) := xq3 _ _ _ _ _ _ _ _ _ _ _;clear h bn T hm hs;go_enter Tryz.func32, Tryz.ntmps32
 go_upto_region 1 with fail
 generalize w.alloc (.cells (dcC 4 nm ot nu va un A n c pl at1) 62) = wS at *;obtain ⟨q_x, eg⟩ : ∃ g, g = w.heap.size := ⟨_, rfl⟩;rw [← eg] at h_rx ⊢;clear eg;have HX0 := hid h_rx;clear h_rx;go_wp2_with fail
 refine xzo 13 1 [3, 4, 5, 6, 7, 8, 9, 10, 11, 12, 13, 14, 15] ?aF6 (fun wx => Below wS.heap.size wS wx) (fun k vv wx => match k with
  | 0 => vv = .pointer (some ⟨q_x, 1, none⟩)
  | 1 => vv = .string nm
  | 2 => vv = .bool true
  | 3 => vv = .bool true
  | 4 => vv = .agg (dcC 4 nm ot nu va un A n c pl at1)
  | 5 => vv = .bool true
  | 6 => vv = .bool true
  | 7 => vv = .bool true
  | 8 => vv = .agg (dcC 4 nm ot nu va un A n c pl at1)
  | 9 => vv = .agg (dcC 4 nm ot nu va un A n c pl at1)
  | 10 => vv = .agg (dcC 4 nm ⟨#[]⟩ ⟨#[]⟩ ⟨#[]⟩ ⟨#[]⟩ A n c 0 0)
  | 11 => vv = .bool v
  | _ => vv = .bool v)
  (fun k => false) (by kernel_rfl) ?haF6 rfl (by kernel_rfl) (by kernel_rfl) (fun _ _ _ _ _ h => h) ?hSb6 ?hPb6 ?hS6 ?hop6 ?hfin6
 case haF6 =>
  intro vals;simp only [xqx, List.getElem?_cons_zero, List.getElem?_cons_succ, Act.put, List.setIfInBounds_toArray, List.set_cons_zero, List.set_cons_succ];exact rfl
 case hSb6 => exact fun wx w2 hb hS => xqa hS hb
 case hPb6 =>
  intro k v wa wb hb h
  match k, h with
  | 0, h => exact h
  | 1, h => exact h
  | 2, h => exact h
  | 3, h => exact h
  | 4, h => exact h
  | 5, h => exact h
  | 6, h => exact h
  | 7, h => exact h
  | 8, h => exact h
  | 9, h => exact h
  | 10, h => exact h
  | 11, h => exact h
  | _ + 12, h => exact h
 case hS6 => exact (Below.refl _ _).drew
 case hop6 =>
  refine .cons (k := 0) (.plain rfl ?_) (.cons (k := 1) (.plain rfl ?_) (.cons (k := 2) (.plain rfl ?_) (.cons (k := 3) (.plain rfl ?_) (.cons (k := 4) (.yes (fun vals wr hS hd g b e => by cases e; exact hd 3 (by decide +kernel)) ?_) (.cons (k := 5) (.yes (fun vals wr hS hd g b e => by cases e; exact hd 3 (by decide +kernel)) ?_) (.cons (k := 6) (.plain rfl ?_) (.cons (k := 7) (.plain rfl ?_) (.cons (k := 8) (.yes (fun vals wr hS hd g b e => by cases e; exact hd 7 (by decide +kernel)) ?_) (.cons (k := 9) (.yes (fun vals wr hS hd g b e => by cases e; exact hd 7 (by decide +kernel)) ?_) (.cons (k := 10) (.yes (fun vals wr hS hd g b e => by cases e; exact hd 7 (by decide +kernel)) ?_) (.cons (k := 11) (.yes (fun vals wr hS hd g b e => by cases e; exact hd 7 (by decide +kernel)) ?_) (.cons (k := 12) (.plain rfl ?_) (.nil)))))))))))))
  all_goals intro vals wr hS hd KC hK
  all_goals (show Oper.wp _ _ _ _ _ _; dsimp only)
  · go_simp;refine hK _ _ rfl (Below.refl _ _) (by first | rfl | simp) (fun h => by cases h)
  · have d0 : vals 0 = _ := hd 0 (by decide +kernel);rw [d0];have z0 := (HX0.out.below hS).cell (k := 1) (v := .string nm) rfl;go_simp;refine hK _ _ rfl (Below.refl _ _) (by first | rfl | simp) (fun h => by cases h)
  · have d1 : vals 1 = _ := hd 1 (by decide +kernel);rw [d1];go_simp;go_at_call 62
    with_reducible refine (xj0 nm (by have := HS.out.1; omega) wr (HT0.out.below hS).nt true E_nm.out).mono ?_
    rintro e w2 ⟨rfl, rfl⟩;refine hK _ _ rfl (Below.refl _ _) rfl (fun h => by cases h)
  · have d2 : vals 2 = _ := hd 2 (by decide +kernel);rw [d2];go_simp;refine hK _ _ rfl (Below.refl _ _) (by first | rfl | simp) (fun h => by cases h)
  · refine xq1 62 _ rfl _ _ rfl (dcC 4 nm ot nu va un A n c pl at1) (hid (RowA.inV (HX0.out.below hS))) HMn ?_;refine hK _ _ rfl (Below.refl _ _) (by first | rfl | simp) (fun h => by cases h)
  · have d4 : vals 4 = _ := hd 4 (by decide +kernel);rw [d4];go_simp;go_at_call 63
    with_reducible refine (yvv 4 nm ot nu va un pl at1 (HR0.out.below hS) HM.out HS.out (HT0.out.below hS) true E_ft.out).mono ?_
    rintro e w2 ⟨rfl, bn_r⟩;refine hK _ _ rfl bn_r rfl (fun h => by cases h)
  · have d3 : vals 3 = _ := hd 3 (by decide +kernel);have d5 : vals 5 = _ := hd 5 (by decide +kernel);rw [d3, d5];go_simp;refine hK _ _ rfl (Below.refl _ _) (by first | rfl | simp) (fun h => by cases h)
  · have d6 : vals 6 = _ := hd 6 (by decide +kernel);rw [d6];go_simp;refine hK _ _ rfl (Below.refl _ _) (by first | rfl | simp) (fun h => by cases h)
  · refine xq1 62 _ rfl _ _ rfl (dcC 4 nm ot nu va un A n c pl at1) (hid (RowA.inV (HX0.out.below hS))) HMn ?_;refine hK _ _ rfl (Below.refl _ _) (by first | rfl | simp) (fun h => by cases h)
  · refine xq1 62 _ rfl _ _ rfl (dcC 4 nm ot nu va un A n c pl at1) (hid (RowA.inV (HX0.out.below hS))) HMn ?_;refine hK _ _ rfl (Below.refl _ _) (by first | rfl | simp) (fun h => by cases h)
  · have d9 : vals 9 = _ := hd 9 (by decide +kernel);rw [d9];go_simp;go_at_call 65
    with_reducible refine (wOwn4_c nm ot nu va un A n c pl at1 wr).mono ?_
    rintro e w2 ⟨rfl, bn_r⟩;refine hK _ _ rfl bn_r rfl (fun h => by cases h)
  · have d8 : vals 8 = _ := hd 8 (by decide +kernel);have d10 : vals 10 = _ := hd 10 (by decide +kernel);rw [d8, d10];go_simp;go_at_call 64
    with_reducible refine (yjk (HR0.out.below hS) (HR0.out.below hS) v E_sm.out).mono ?_
    rintro e w2 ⟨rfl, bn_r⟩;refine hK _ _ rfl bn_r rfl (fun h => by cases h)
  · have d7 : vals 7 = _ := hd 7 (by decide +kernel);have d11 : vals 11 = _ := hd 11 (by decide +kernel);rw [d7, d11];go_simp;refine hK _ _ rfl (Below.refl _ _) (by first | rfl | simp) (fun h => by cases h)
 case hfin6 =>
  intro vals wr hS hP hne;have ez_12 : vals 12 = _ := hP 12 (by decide)
  try dsimp only
  rw [ez_12];refine wpAny_ready (rs := [13]) (by kernel_rfl) (by simp) (AllReady.cons rfl (fun KC hK => ?_) AllReady.nil);go_simp;refine hK _ _ ?_;clear hK KC;refine wpAny_done (by kernel_rfl) ?_ _;go_wp2
  have HB2 := hid (xqa HB0.out hS);clear hS hP hne;go_ret
  exact ⟨rfl, HB2.out⟩
set_option maxRecDepth 100000 in
theorem wGood5_c (nm ot nu va un : ByteArray) {A : Option Addr} {n c : Nat} {ts : List Nd} (pl at1 : Int) {w : World} (h : TreR w A n c ts) (hm : Mild ts) (hs : nm.size ≤ 1000000 ∧ ot.size ≤ 1000000 ∧ nu.size ≤ 1000000 ∧ va.size ≤ 1000000 ∧ un.size ≤ 1000000) (T : XTab w) (hn : xjn (bytesOf nm) = true) (hf : xvg 5 ot nu va un ts pl = true) (v : Bool) (hv : (samB 5 5 nm nm ot ⟨#[]⟩ nu ⟨#[]⟩ va ⟨#[]⟩ un un pl pl ts ts) = v) :
 Calls Tryz.prog 32 #[.agg (dcC 5 nm ot nu va un A n c pl at1)] w fun e w' => e = .returned (.bool v) ∧ Below w.heap.size w w' := by
 have E_nm := hid hn;have E_ft := hid hf;have E_sm := hid hv;clear hn hf hv;have HM := hid hm;have HS := hid hs;have bn := xqc w (.cells (dcC 5 nm ot nu va un A n c pl at1) 62);have h_rx := xqd w 62 (dcC 5 nm ot nu va un A n c pl at1);have HR0 := hid (h.below bn);have HT0 := hid (T.below bn);have HB0 := hid bn;have HMn : Hid (xq7 Tryz.prog 62 (dcC 5 nm ot nu va un A n c pl at1).size) := xq3 _ _ _ _ _ _ _ _ _ _ _;clear h bn T hm hs;go_enter Tryz.func32, Tryz.ntmps32
 go_upto_region 1 with fail
 generalize w.alloc (.cells (dcC 5 nm ot nu va un A n c pl at1) 62) = wS at *;obtain ⟨q_x, eg⟩ : ∃ g, g = w.heap.size := ⟨_, rfl⟩;rw [← eg] at h_rx ⊢;clear eg;have HX0 := hid h_rx;clear h_rx;go_wp2_with fail
 refine xzo 13 1 [3, 4, 5, 6, 7, 8, 9, 10, 11, 12, 13, 14, 15] ?aF7 (fun wx => Below wS.heap.size wS wx) (fun k vv wx => match k with
  | 0 => vv = .pointer (some ⟨q_x, 1, none⟩)
  | 1 => vv = .string nm
  | 2 => vv = .bool true
  | 3 => vv = .bool true
  | 4 => vv = .agg (dcC 5 nm ot nu va un A n c pl at1)
  | 5 => vv = .bool true
  | 6 => vv = .bool true
  | 7 => vv = .bool true
  | 8 => vv = .agg (dcC 5 nm ot nu va un A n c pl at1)
  | 9 => vv = .agg (dcC 5 nm ot nu va un A n c pl at1)
  | 10 => vv = .agg (dcC 5 nm ⟨#[]⟩ ⟨#[]⟩ ⟨#[]⟩ un A n c pl 0)
  | 11 => vv = .bool v
  | _ => vv = .bool v)
  (fun k => false) (by kernel_rfl) ?haF7 rfl (by kernel_rfl) (by kernel_rfl) (fun _ _ _ _ _ h => h) ?hSb7 ?hPb7 ?hS7 ?hop7 ?hfin7
 case haF7 =>
  intro vals;simp only [xqx, List.getElem?_cons_zero, List.getElem?_cons_succ, Act.put, List.setIfInBounds_toArray, List.set_cons_zero, List.set_cons_succ];exact rfl
 case hSb7 => exact fun wx w2 hb hS => xqa hS hb
 case hPb7 =>
  intro k v wa wb hb h
  match k, h with
  | 0, h => exact h
  | 1, h => exact h
  | 2, h => exact h
  | 3, h => exact h
  | 4, h => exact h
  | 5, h => exact h
  | 6, h => exact h
  | 7, h => exact h
  | 8, h => exact h
  | 9, h => exact h
  | 10, h => exact h
  | 11, h => exact h
  | _ + 12, h => exact h
 case hS7 => exact (Below.refl _ _).drew
 case hop7 =>
  refine .cons (k := 0) (.plain rfl ?_) (.cons (k := 1) (.plain rfl ?_) (.cons (k := 2) (.plain rfl ?_) (.cons (k := 3) (.plain rfl ?_) (.cons (k := 4) (.yes (fun vals wr hS hd g b e => by cases e; exact hd 3 (by decide +kernel)) ?_) (.cons (k := 5) (.yes (fun vals wr hS hd g b e => by cases e; exact hd 3 (by decide +kernel)) ?_) (.cons (k := 6) (.plain rfl ?_) (.cons (k := 7) (.plain rfl ?_) (.cons (k := 8) (.yes (fun vals wr hS hd g b e => by cases e; exact hd 7 (by decide +kernel)) ?_) (.cons (k := 9) (.yes (fun vals wr hS hd g b e => by cases e; exact hd 7 (by decide +kernel)) ?_) (.cons (k := 10) (.yes (fun vals wr hS hd g b e => by cases e; exact hd 7 (by decide +kernel)) ?_) (.cons (k := 11) (.yes (fun vals wr hS hd g b e => by cases e; exact hd 7 (by decide +kernel)) ?_) (.cons (k := 12) (.plain rfl ?_) (.nil)))))))))))))
  all_goals intro vals wr hS hd KC hK
  all_goals (show Oper.wp _ _ _ _ _ _; dsimp only)
  · go_simp;refine hK _ _ rfl (Below.refl _ _) (by first | rfl | simp) (fun h => by cases h)
  · have d0 : vals 0 = _ := hd 0 (by decide +kernel);rw [d0];have z0 := (HX0.out.below hS).cell (k := 1) (v := .string nm) rfl;go_simp;refine hK _ _ rfl (Below.refl _ _) (by first | rfl | simp) (fun h => by cases h)
  · have d1 : vals 1 = _ := hd 1 (by decide +kernel);rw [d1];go_simp;go_at_call 62
    with_reducible refine (xj0 nm (by have := HS.out.1; omega) wr (HT0.out.below hS).nt true E_nm.out).mono ?_
    rintro e w2 ⟨rfl, rfl⟩;refine hK _ _ rfl (Below.refl _ _) rfl (fun h => by cases h)
  · have d2 : vals 2 = _ := hd 2 (by decide +kernel);rw [d2];go_simp;refine hK _ _ rfl (Below.refl _ _) (by first | rfl | simp) (fun h => by cases h)
  · refine xq1 62 _ rfl _ _ rfl (dcC 5 nm ot nu va un A n c pl at1) (hid (RowA.inV (HX0.out.below hS))) HMn ?_;refine hK _ _ rfl (Below.refl _ _) (by first | rfl | simp) (fun h => by cases h)
  · have d4 : vals 4 = _ := hd 4 (by decide +kernel);rw [d4];go_simp;go_at_call 63
    with_reducible refine (yvv 5 nm ot nu va un pl at1 (HR0.out.below hS) HM.out HS.out (HT0.out.below hS) true E_ft.out).mono ?_
    rintro e w2 ⟨rfl, bn_r⟩;refine hK _ _ rfl bn_r rfl (fun h => by cases h)
  · have d3 : vals 3 = _ := hd 3 (by decide +kernel);have d5 : vals 5 = _ := hd 5 (by decide +kernel);rw [d3, d5];go_simp;refine hK _ _ rfl (Below.refl _ _) (by first | rfl | simp) (fun h => by cases h)
  · have d6 : vals 6 = _ := hd 6 (by decide +kernel);rw [d6];go_simp;refine hK _ _ rfl (Below.refl _ _) (by first | rfl | simp) (fun h => by cases h)
  · refine xq1 62 _ rfl _ _ rfl (dcC 5 nm ot nu va un A n c pl at1) (hid (RowA.inV (HX0.out.below hS))) HMn ?_;refine hK _ _ rfl (Below.refl _ _) (by first | rfl | simp) (fun h => by cases h)
  · refine xq1 62 _ rfl _ _ rfl (dcC 5 nm ot nu va un A n c pl at1) (hid (RowA.inV (HX0.out.below hS))) HMn ?_;refine hK _ _ rfl (Below.refl _ _) (by first | rfl | simp) (fun h => by cases h)
  · have d9 : vals 9 = _ := hd 9 (by decide +kernel);rw [d9];go_simp;go_at_call 65
    with_reducible refine (wOwn5_c nm ot nu va un A n c pl at1 wr).mono ?_
    rintro e w2 ⟨rfl, bn_r⟩;refine hK _ _ rfl bn_r rfl (fun h => by cases h)
  · have d8 : vals 8 = _ := hd 8 (by decide +kernel);have d10 : vals 10 = _ := hd 10 (by decide +kernel);rw [d8, d10];go_simp;go_at_call 64
    with_reducible refine (yjk (HR0.out.below hS) (HR0.out.below hS) v E_sm.out).mono ?_
    rintro e w2 ⟨rfl, bn_r⟩;refine hK _ _ rfl bn_r rfl (fun h => by cases h)
  · have d7 : vals 7 = _ := hd 7 (by decide +kernel);have d11 : vals 11 = _ := hd 11 (by decide +kernel);rw [d7, d11];go_simp;refine hK _ _ rfl (Below.refl _ _) (by first | rfl | simp) (fun h => by cases h)
 case hfin7 =>
  intro vals wr hS hP hne;have ez_12 : vals 12 = _ := hP 12 (by decide)
  try dsimp only
  rw [ez_12];refine wpAny_ready (rs := [13]) (by kernel_rfl) (by simp) (AllReady.cons rfl (fun KC hK => ?_) AllReady.nil);go_simp;refine hK _ _ ?_;clear hK KC;refine wpAny_done (by kernel_rfl) ?_ _;go_wp2
  have HB2 := hid (xqa HB0.out hS);clear hS hP hne;go_ret
  exact ⟨rfl, HB2.out⟩
def DcB (d : Dc) : Prop := Bytes d.nm ∧ Bytes d.ot ∧ Bytes d.nu ∧ Bytes d.va ∧ Bytes d.un
theorem xzh {l : List Nat} (h : Bytes l) : decide (strOf l = ⟨#[]⟩) = decide (l = []) := by
 rw [decide_eq_decide];constructor
 · intro e;have := congrArg bytesOf e;rw [xqk h] at this;exact this
 · rintro rfl; rfl
theorem zqo (ts : List Nd) : sameT ts [] = decide (ts.length = 0) := by
 cases ts with
 | nil => rfl
 | cons x ts => rfl
theorem sameT_self (ts : List Nd) : sameT ts ts = true := sameT_iff.2 ⟨rfl, fun i x y h1 h2 => by
 rw [h1] at h2;injection h2 with h2
 subst h2
 unfold ywv; simp⟩
theorem dec_size {l : List Nat} : decide ((strOf l).size = 0) = decide (l = []) := by
 rw [xqh, decide_eq_decide];exact ⟨List.eq_nil_of_length_eq_zero, fun h => by rw [h]; rfl⟩
theorem wGood_c {d : Dc} (hb : DcB d) {A : Option Addr} {n c : Nat} {w : World} (h : TreR w A n c d.tr) (hm : Mild d.tr) (hs : d.nm.length ≤ 1000000 ∧ d.ot.length ≤ 1000000 ∧ d.nu.length ≤ 1000000 ∧ d.va.length ≤ 1000000 ∧ d.un.length ≤ 1000000) (T : XTab w) (v : Bool) (hv : goodD d = v) :
 Calls Tryz.prog 32 #[.agg (dcV ⟨d, A, n, c⟩)] w fun e w' => e = .returned (.bool v) ∧ Below w.heap.size w w' := by
 obtain ⟨k, nm, ot, nu, va, un, ts, pl, at1⟩ := d;obtain ⟨b1, b2, b3, b4, b5⟩ := hb;dsimp only at b1 b2 b3 b4 b5 h hm hs;have hs' : (strOf nm).size ≤ 1000000 ∧ (strOf ot).size ≤ 1000000 ∧ (strOf nu).size ≤ 1000000 ∧ (strOf va).size ≤ 1000000 ∧ (strOf un).size ≤ 1000000 := by
  rw [xqh, xqh, xqh, xqh, xqh]; exact hs
 show Calls Tryz.prog 32 #[.agg (dcC k (strOf nm) (strOf ot) (strOf nu) (strOf va) (strOf un) A n c pl at1)] w _;have hun : unitG un = xjt (strOf un) := by rw [← unitG_ok, xqk b5]
 unfold goodD at hv;dsimp only at hv;rw [hun] at hv;cases hn : xjn nm with
 | false =>
  rw [hn] at hv;subst hv;exact wGoodA_c (strOf nm) (strOf ot) (strOf nu) (strOf va) (strOf un) pl at1 h hm hs' T (by rw [xqk b1]; exact hn)
 | true =>
  rw [hn, Bool.true_and] at hv;have hn' : xjn (bytesOf (strOf nm)) = true := by rw [xqk b1]; exact hn
  cases hf : xvg k (strOf ot) (strOf nu) (strOf va) (strOf un) ts pl with
  | false =>
   have ev : v = false := by
    rw [← hv];unfold xvg at hf;rw [xqk b3, xqk b2, xqk b4, dec_size] at hf
    split
    · rename_i h1
      rw [if_pos h1] at hf;cases hU : xjt (strOf un) <;> cases hN : ywj nu <;> simp_all
    · rename_i h1
      rw [if_neg h1] at hf
      split
      · rename_i h2
        rw [if_pos h2] at hf;cases hU : xjt (strOf un) <;> cases hN : ywj nu <;> cases hA : ywj va <;> simp_all
      · rename_i h2
        rw [if_neg h2] at hf
        split
        · rename_i h3
          rw [if_pos h3] at hf;cases hU : xjt (strOf un) <;> cases hN : ywj nu <;> cases hO : xjn ot <;> simp_all
        · rename_i h3
          rw [if_neg h3] at hf
          split
          · rename_i h4
            rw [if_pos h4] at hf;cases hU : xjt (strOf un) <;> simp_all
          · rename_i h4
            rw [if_neg h4] at hf
            split
            · rename_i h5
              rw [if_pos h5] at hf;cases hU : xjt (strOf un) <;> cases hG : xq5 ts <;> cases hp : decide (0 ≤ pl) <;> cases hq : decide (pl ≤ 60) <;> simp_all
            · exact Bool.and_false _
   subst ev;exact wGoodB_c (strOf nm) (strOf ot) (strOf nu) (strOf va) (strOf un) pl at1 h hm hs' T hn' hf
  | true =>
   have hf0 := hf;unfold xvg at hf;rw [xqk b3, xqk b2, xqk b4, dec_size] at hf;have u0 : un = [] → xjt (strOf un) = true := fun e => by rw [e]; decide
   by_cases k1 : k = 1
   · subst k1;rw [if_pos rfl] at hf hv;refine wGood1_c (strOf nm) (strOf ot) (strOf nu) (strOf va) (strOf un) pl at1 h hm hs' T hn' hf0 v ?_;rw [← hv];simp only [Bool.and_eq_true, Bool.not_eq_true', decide_eq_false_iff_not] at hf;unfold samB;rw [xzh b2, xzh b4, zqo, hf.1, hf.2.2];simp [hf.2.1];cases decide (ot = []) <;> cases decide (va = []) <;> cases decide (ts = []) <;> cases decide (pl = 0) <;> rfl
   · rw [if_neg k1] at hf hv;by_cases k2 : k = 2
     · subst k2;rw [if_pos rfl] at hf hv;refine wGood2_c (strOf nm) (strOf ot) (strOf nu) (strOf va) (strOf un) pl at1 h hm hs' T hn' hf0 v ?_;rw [← hv];simp only [Bool.and_eq_true] at hf;unfold samB;rw [xzh b2, zqo, hf.1, hf.2.1, hf.2.2]
       simp
       cases decide (ot = []) <;> cases decide (ts = []) <;> cases decide (pl = 0) <;> rfl
     · rw [if_neg k2] at hf hv;by_cases k3 : k = 3
       · subst k3;rw [if_pos rfl] at hf hv;refine wGood3_c (strOf nm) (strOf ot) (strOf nu) (strOf va) (strOf un) pl at1 h hm hs' T hn' hf0 v ?_;rw [← hv];simp only [Bool.and_eq_true] at hf;unfold samB;rw [xzh b4, xzh b5, zqo, hf.1, hf.2];by_cases e : un = []
         · rw [u0 e];simp [e];cases decide (va = []) <;> cases decide (ts = []) <;> cases decide (pl = 0) <;> rfl
         · simp [e]
       · rw [if_neg k3] at hf hv;by_cases k4 : k = 4
         · subst k4;rw [if_pos rfl] at hf hv;refine wGood4_c (strOf nm) (strOf ot) (strOf nu) (strOf va) (strOf un) pl at1 h hm hs' T hn' hf0 v ?_;rw [← hv];unfold samB;rw [xzh b2, xzh b3, xzh b4, xzh b5, sameT_self, hf];by_cases e : un = []
           · rw [u0 e];simp [e]
           · simp [e]
         · rw [if_neg k4] at hf hv;by_cases k5 : k = 5
           · subst k5;rw [if_pos rfl] at hf hv;refine wGood5_c (strOf nm) (strOf ot) (strOf nu) (strOf va) (strOf un) pl at1 h hm hs' T hn' hf0 v ?_;rw [← hv];simp only [Bool.and_eq_true] at hf;unfold samB;rw [xzh b2, xzh b3, xzh b4, sameT_self, hf.1, hf.2.1, hf.2.2.1, hf.2.2.2]
             simp
           · rw [if_neg k5] at hf;cases hf
def xz2 (l : List (List Nat)) : List Nat := match l with
 | [] => []
 | p :: r => p ++ r.flatMap fun q => 32 :: q
def strs (l : List (List Nat)) : List Value := l.map fun p => .string (strOf p)
theorem joinS_is {l : List (List Nat)} (h : l ≠ []) : Lib.join ((l.map strOf).map (·.data.toList)) [32] = (xz2 l).map UInt8.ofNat := by
 cases l with
 | nil => exact absurd rfl h
 | cons p r =>
  rw [List.map_cons, List.map_cons, Lib.join_cons];show _ = (p ++ r.flatMap fun q => 32 :: q).map UInt8.ofNat;rw [List.map_append]
  congr 1
  unfold Lib.joinTail;rw [List.map_map, List.map_map, List.flatMap_def, List.map_flatten, List.map_map]
  congr 1
theorem zq5 {w : World} {B n c : Nat} {A : Option Addr} {l : List (List Nat)} (h0 : l ≠ []) (h : OwnR w B 9 1 A n c (strs l)) (hl : l.length ≤ 1000) (hs : (xz2 l).length ≤ 100000000000000) :
 Calls Tryz.prog 100 #[.slice A n c, .string ⟨#[32]⟩] w fun e w' => e = .returned (.string (strOf (xz2 l))) ∧ Below w.heap.size w w' := by
 have hn : n = l.length := by have := h.len; unfold strs at this; rw [List.length_map] at this; omega
 subst hn;obtain ⟨g, rfl, _, hg, hc, _, hcell⟩ := h.cells (List.length_pos_iff.2 h0)
 have h1 := Any.strings_Join Tryz.lays156 Tryz.Builder_Extra_156 g 0 c (l.map strOf) ⟨#[32]⟩ w (fun j x hj => by
  rw [Nat.zero_add];refine hcell j _ ?_;unfold strs;rw [List.getElem?_map] at hj ⊢;cases hq : l[j]? with
  | none => rw [hq] at hj; cases hj
  | some q => rw [hq] at hj; injection hj with hj; rw [← hj]; rfl) hg (by rw [List.length_map]; omega) (by rw [List.length_map]; omega) (by
  show (Lib.join _ [32]).length ≤ _
  rw [joinS_is h0, List.length_map]; omega)
 rw [List.length_map] at h1;refine h1.mono ?_;rintro e w' ⟨rfl, hb⟩;refine ⟨?_, hb⟩;show Ending.returned (.string ⟨(Lib.join _ [32]).toArray⟩) = _;rw [joinS_is h0]; rfl
def brU (u : List Nat) : List Nat := 91 :: (u ++ [93])
def partsL (d : Dc) : List (List Nat) :=
 if d.k = 1 then [[117, 110, 105, 116], d.nm, [61], d.nu, brU d.un]
 else if d.k = 2 then [[115, 111, 117, 114, 99, 101], d.nm, [61], d.nu] ++ (if d.un = [] then [] else [brU d.un]) ++ [[58], d.va]
 else if d.k = 3 then [[99, 111, 118], d.nm, d.ot, [61], d.nu]
 else if d.k = 4 then [[108, 101, 116], d.nm, [61], xzz d.tr]
 else [[111, 117, 116, 112, 117, 116], d.nm, [61], xzz d.tr] ++ (if d.un = [] then [] else [[105, 110], brU d.un]) ++ [[58], zT d.pl]
theorem line_parts {d : Dc} (hg : goodD d = true) : xvc d = xz2 (partsL d ++ [[59]]) ++ [10] := by
 unfold goodD at hg;rw [Bool.and_eq_true] at hg;have hg := hg.2;unfold xvc wrdK yzg partsL unP inP brU xz2
 split
 · rename_i h1
   rw [if_pos h1] at hg;simp only [Bool.and_eq_true, decide_eq_true_eq] at hg;have hu : d.un ≠ [] := hg.1.1.1.1.2;simp [hu]
 · rename_i h1
   split
   · rename_i h2
     by_cases hu : d.un = [] <;> simp [hu]
   · rename_i h2
     split
     · rename_i h3
       simp
     · rename_i h3
       split
       · rename_i h4
         simp
       · rename_i h4
         by_cases hu : d.un = [] <;> simp [hu]
section
variable {P : Program} {ops : Array Oper} {rest : List Oper} {o : Oper} {a : Act} {w : World} {K : Act → World → Prop} {Q : Exit → Act → World → Prop}
theorem xqr (hgd : o.guard = none) (s x : Operand) (t : TypeId) (ho : o.op = .call { callee := .builtin .append, args := #[s, x], argTypes := #[t, t] })
 (B : Nat) (e : TypeId) (sz : Nat) (ht : Elem P t e sz) (A : Option Addr) (n c : Nat) (xs : List Value) (hs : a.eval s = .slice A n c) (hown : Hid (OwnR w B e sz A n c xs))
 (g m : Nat) (hx : a.eval x = .slice (some ⟨g, 0, none⟩) m m) (T : TypeId) (V : Array Value) (hy : Hid (RowA w g T V ∧ V.size = m * sz ∧ ∀ v ∈ V, v.oneCell' = true)) (hb : Hid (n ≤ 1000000 ∧ m ≤ 1000 ∧ B ≤ w.heap.size))
 (h : ∀ A2 c2 w', Hid (OwnR w' B e sz A2 (n + m) c2 (xs ++ V.toList)) → Hid (w.grownBy w' (Value.ownBlock (.slice A n c))) → wpList P ops Q rest (a.put o.dst (.slice A2 (n + m) c2)) w') : wpList P ops Q (o :: rest) a w := by
 obtain ⟨i, z, h1, h2, h3, h4, h5, h6, h7⟩ := ht;obtain ⟨y1, y2, y3⟩ := hy.out;obtain ⟨b1, b2, b3⟩ := hb.out;refine wpList_plain hgd fun _ hK => ?_
 refine wp_append_own w s x t ho B e i z sz i.bytes h1 h2 h3 h4 rfl h5 h6 (.slice A n c) n xs hs hown.out ⟨g, 0, none⟩ m m V.toList hx (by simp [y2]) ?_ (fun u hu => y3 u (by simpa using hu)) (by unfold maxLen; omega) ?_ b3 ?_
 · intro j u hu;rw [Addr.add_mid, Nat.zero_add];exact y1.cell (by simpa using hu)
 · exact Nat.le_trans (Nat.mul_le_mul (show n + m ≤ 1001000 by omega) h7) (by decide)
 · intro v' w' hown' hg _;obtain ⟨A2, c2, rfl, how⟩ := xwk hown';exact hK _ _ (h A2 c2 w' how hg)
end
theorem xzc : Elem Tryz.prog 83 9 1 := zjc Tryz.underlying83 (v := .string ⟨#[]⟩) (b := 16) (by kernel_rfl) rfl (by decide) (by decide)
structure NewS (wS wx : World) (g : Nat) (V : Array Value) : Prop where
 row : RowA wx g 9 V
 low : wS.heap.size ≤ g
theorem NewS.below {wS w w' : World} {g : Nat} {V : Array Value} (h : NewS wS w g V) (hb : Below w.heap.size w w') : NewS wS w' g V := ⟨h.row.below hb, h.low⟩
theorem NewS.own {wS w : World} {g n : Nat} {V : Array Value} (h : NewS wS w g V) (hn : V.size = n) (h9 : n ≤ 1000) : OwnR w wS.heap.size 9 1 (some ⟨g, 0, none⟩) n n V.toList := by
 refine ⟨by simp [hn], .inr ⟨g, n, V, rfl, h.low, h.row, Nat.le_refl _, by unfold maxLen; omega, by omega, ?_⟩⟩;exact List.take_of_length_le (by rw [Array.length_toList, hn]; omega)
end Go.Proofs.YtannifhcjcbkcaaGreatDoor
