/- Part 13 of the texts that the statements of this seat lean on: mathematics, and what functions answer, as contracts over memory; each part says its own conditions. -/
import Derived.Test.YtannifhcjcbkcaaGreatDoorMB12
set_option linter.unusedVariables false
set_option maxHeartbeats 8000000
namespace Go.Proofs.YtannifhcjcbkcaaGreatDoor
open Go.RowKit Limb
open Lib (hid)
def xzr (w0 : World) (C : Option Addr) (N D : Nat) (ts : List Nd) (i : Nat) : Prop := ∀ (w : World) (q : Nat) (l : List Nat), Below w0.heap.size w0 w → Bd_w w w0.heap.size q C N D l → l.length + (ndX ts i).length ≤ 10000000000000 →
 Calls Tryz.prog 96 #[.pointer (some ⟨q, 0, none⟩), .int .i64 (i : Int)] w fun e w' => e = .returned (.tuple #[]) ∧ Bd_w w' w0.heap.size q C N D (l ++ ndX ts i) ∧ KnW w0.heap.size q w w'
theorem Bd_w.low {w : World} {B q : Nat} {C : Option Addr} {N D : Nat} {l : List Nat} (h : Bd_w w B q C N D l) : B ≤ q ∧ q < w.heap.size ∧ w.cell? ⟨q, 0, none⟩ = some (.slice C N D) := by
 obtain ⟨p, A, n, c, hp, hu⟩ := h;exact ⟨hu.low, hu.lt, hu.row.cell rfl⟩
set_option maxRecDepth 100000 in
theorem xvy {w0 : World} {C : Option Addr} {N D : Nat} {ts : List Nd} (hg : xq5 ts = true) (HR : TreR w0 C N D ts) (HT : BTab w0) {j : Nat} (hj : j < ts.length) (hn : xzr w0 C N D ts j) (firm : Nat) (hf4 : firm ≤ 4) (v : Bool) (hv : decide (bOwn (xwc ts j).toNat < firm) = v)
 (w : World) (q : Nat) (l : List Nat) (hb : Below w0.heap.size w0 w) (h : Bd_w w w0.heap.size q C N D l) (hl : l.length + (xj7 v (ndX ts j)).length ≤ 10000000000000) :
 Calls Tryz.prog 127 #[.pointer (some ⟨q, 0, none⟩), .int .i64 (j : Int), .int .i64 (firm : Int)] w fun e w' => e = .returned (.tuple #[]) ∧ Bd_w w' w0.heap.size q C N D (l ++ xj7 v (ndX ts j)) ∧ KnW w0.heap.size q w w' := by
 obtain ⟨x, hx⟩ : ∃ x, ts[j]? = some x := ⟨_, List.getElem?_eq_getElem hj⟩;have hk := zq8 (xzg hg hx).1;have hkn := kndI_at hx;obtain ⟨hq, hqs, c0⟩ := h.low;have hsz := hb.size;have HTw := HT.below hb;obtain ⟨g, og, rfl, hgl, hin⟩ := (HR.below hb).at hx;have ck : w.cell? ⟨g, og + j * 7, none⟩ = some (.int .i64 x.k) := hin 0 _ rfl;have hNl := HR.len;have hjN : j < N := by omega
 obtain ⟨hND, hDm⟩ : N ≤ D ∧ D ≤ maxLen := ⟨HR.2.1, HR.2.2.1⟩;have eq1 : maxLen = 9223372036854775807 := rfl;have H0 := hid h;have HB0 := hid hb;have HN := hid hn;have HV := hid hv;have HL := hid hl;have Hkn := hid hkn;have HSZ := hid hsz;have HQ := hid hq;obtain ⟨k, a, b, n', t, u, p'⟩ := x;dsimp only at hk ck Hkn;clear h hb hn hv hl hkn hsz hq hqs hin hx hg HR HT hj hNl;have hk8 : k = 1 ∨ k = 2 ∨ k = 3 ∨ k = 4 ∨ k = 5 ∨ k = 6 ∨ k = 7 ∨ k = 8 := by omega
 clear hk;rcases hk8 with rfl | rfl | rfl | rfl | rfl | rfl | rfl | rfl
 · have ct : w.cell? ⟨1, 4, none⟩ = some (.int .i64 4) := HTw 1 (by decide) 0 _ rfl;have HVv : Hid (decide (4 < firm) = v) := by show _ = _; rw [← HV.out, Hkn.out]; rfl
   clear HTw HV Hkn;by_cases hle : firm ≤ 4
   · have hfi : (firm : Int) ≤ 4 := by omega
     have Hv0 : Hid (v = false) := by show _ = _; rw [← HVv.out]; exact decide_eq_false (by omega)
     go_enter Tryz.func127, Tryz.ntmps127;go_wp2_with (go_at_call 96; refine (HN.out w q l HB0.out H0.out (by have := HL.out; rw [Hv0.out] at this; exact this)).mono ?_);rintro e w1 ⟨rfl, h1, k1⟩;have H1 := hid h1;have K1 := hid k1;clear h1 k1;go_wp2
     first | go_end0 | refine bodyPost_ret (results_none rfl _ _ _) rfl ?_
     exact ⟨rfl, by rw [Hv0.out]; exact H1.out, K1.out⟩
   · exact absurd hf4 hle
 · have ct : w.cell? ⟨1, 8, none⟩ = some (.int .i64 4) := HTw 2 (by decide) 0 _ rfl;have HVv : Hid (decide (4 < firm) = v) := by show _ = _; rw [← HV.out, Hkn.out]; rfl
   clear HTw HV Hkn;by_cases hle : firm ≤ 4
   · have hfi : (firm : Int) ≤ 4 := by omega
     have Hv0 : Hid (v = false) := by show _ = _; rw [← HVv.out]; exact decide_eq_false (by omega)
     go_enter Tryz.func127, Tryz.ntmps127;go_wp2_with (go_at_call 96; refine (HN.out w q l HB0.out H0.out (by have := HL.out; rw [Hv0.out] at this; exact this)).mono ?_);rintro e w1 ⟨rfl, h1, k1⟩;have H1 := hid h1;have K1 := hid k1;clear h1 k1;go_wp2
     first | go_end0 | refine bodyPost_ret (results_none rfl _ _ _) rfl ?_
     exact ⟨rfl, by rw [Hv0.out]; exact H1.out, K1.out⟩
   · exact absurd hf4 hle
 · have ct : w.cell? ⟨1, 12, none⟩ = some (.int .i64 1) := HTw 3 (by decide) 0 _ rfl;have HVv : Hid (decide (1 < firm) = v) := by show _ = _; rw [← HV.out, Hkn.out]; rfl
   clear HTw HV Hkn;by_cases hle : firm ≤ 1
   · have hfi : (firm : Int) ≤ 1 := by omega
     have Hv0 : Hid (v = false) := by show _ = _; rw [← HVv.out]; exact decide_eq_false (by omega)
     go_enter Tryz.func127, Tryz.ntmps127;go_wp2_with (go_at_call 96; refine (HN.out w q l HB0.out H0.out (by have := HL.out; rw [Hv0.out] at this; exact this)).mono ?_);rintro e w1 ⟨rfl, h1, k1⟩;have H1 := hid h1;have K1 := hid k1;clear h1 k1;go_wp2
     first | go_end0 | refine bodyPost_ret (results_none rfl _ _ _) rfl ?_
     exact ⟨rfl, by rw [Hv0.out]; exact H1.out, K1.out⟩
   · have hfi : (1 : Int) < firm := by omega
     have Hv1 : Hid (v = true) := by show _ = _; rw [← HVv.out]; exact decide_eq_true (by omega)
     have HL2 : Hid (l.length + (ndX ts j).length + 2 ≤ 10000000000000) := by
      have h1 := HL.out;rw [Hv1.out] at h1;have h2 : (xj7 true (ndX ts j)).length = (ndX ts j).length + 2 := by unfold xj7; rw [if_pos rfl]; simp
      show _ ≤ _;omega
     have hle2 : (firm : Int) ≤ 4 := by omega
     go_enter Tryz.func127, Tryz.ntmps127;go_wp2_with (go_at_call 126; refine (xzy H0.out ⟨#[40]⟩ (by have := HL2.out; show l.length + 1 ≤ _; omega) HSZ.out).mono ?_);rintro e w1 ⟨rfl, h1, k1⟩;have H1 : Hid (Bd_w w1 w0.heap.size q _ N D (l ++ [40])) := h1;have K1 := hid k1;have S1 := hid (Nat.le_trans HSZ.out k1.size);have B1 := hid (HB0.out.trans (k1.low HQ.out HSZ.out));clear h1 k1;go_wp2_with (go_at_call 96; refine (HN.out w1 q (l ++ [40]) B1.out H1.out (by have := HL2.out; rw [List.length_append]; show l.length + 1 + _ ≤ _; omega)).mono ?_);rintro e w2 ⟨rfl, h2, k2⟩;have H2 := hid h2;have K2 := hid (K1.out.trans k2);have S2 := hid (Nat.le_trans S1.out k2.size);clear h2 k2;go_wp2_with (go_at_call 126; refine (xzy H2.out ⟨#[41]⟩ (by have := HL2.out; rw [List.length_append, List.length_append]; show l.length + 1 + _ + 1 ≤ _; omega) S2.out).mono ?_);rintro e w3 ⟨rfl, h3, k3⟩;have H3 := hid h3;have K3 := hid (K2.out.trans k3);clear h3 k3;go_wp2
     go_end0
     refine ⟨rfl, ?_, K3.out⟩;rw [Hv1.out, show l ++ xj7 true (ndX ts j) = l ++ [40] ++ ndX ts j ++ bytesOf ⟨#[41]⟩ by unfold xj7; rw [if_pos rfl, show bytesOf ⟨#[41]⟩ = [41] from rfl]; simp];exact H3.out
 · have ct : w.cell? ⟨1, 16, none⟩ = some (.int .i64 1) := HTw 4 (by decide) 0 _ rfl;have HVv : Hid (decide (1 < firm) = v) := by show _ = _; rw [← HV.out, Hkn.out]; rfl
   clear HTw HV Hkn;by_cases hle : firm ≤ 1
   · have hfi : (firm : Int) ≤ 1 := by omega
     have Hv0 : Hid (v = false) := by show _ = _; rw [← HVv.out]; exact decide_eq_false (by omega)
     go_enter Tryz.func127, Tryz.ntmps127;go_wp2_with (go_at_call 96; refine (HN.out w q l HB0.out H0.out (by have := HL.out; rw [Hv0.out] at this; exact this)).mono ?_);rintro e w1 ⟨rfl, h1, k1⟩;have H1 := hid h1;have K1 := hid k1;clear h1 k1;go_wp2
     first | go_end0 | refine bodyPost_ret (results_none rfl _ _ _) rfl ?_
     exact ⟨rfl, by rw [Hv0.out]; exact H1.out, K1.out⟩
   · have hfi : (1 : Int) < firm := by omega
     have Hv1 : Hid (v = true) := by show _ = _; rw [← HVv.out]; exact decide_eq_true (by omega)
     have HL2 : Hid (l.length + (ndX ts j).length + 2 ≤ 10000000000000) := by
      have h1 := HL.out;rw [Hv1.out] at h1;have h2 : (xj7 true (ndX ts j)).length = (ndX ts j).length + 2 := by unfold xj7; rw [if_pos rfl]; simp
      show _ ≤ _;omega
     have hle2 : (firm : Int) ≤ 4 := by omega
     go_enter Tryz.func127, Tryz.ntmps127;go_wp2_with (go_at_call 126; refine (xzy H0.out ⟨#[40]⟩ (by have := HL2.out; show l.length + 1 ≤ _; omega) HSZ.out).mono ?_);rintro e w1 ⟨rfl, h1, k1⟩;have H1 : Hid (Bd_w w1 w0.heap.size q _ N D (l ++ [40])) := h1;have K1 := hid k1;have S1 := hid (Nat.le_trans HSZ.out k1.size);have B1 := hid (HB0.out.trans (k1.low HQ.out HSZ.out));clear h1 k1;go_wp2_with (go_at_call 96; refine (HN.out w1 q (l ++ [40]) B1.out H1.out (by have := HL2.out; rw [List.length_append]; show l.length + 1 + _ ≤ _; omega)).mono ?_);rintro e w2 ⟨rfl, h2, k2⟩;have H2 := hid h2;have K2 := hid (K1.out.trans k2);have S2 := hid (Nat.le_trans S1.out k2.size);clear h2 k2;go_wp2_with (go_at_call 126; refine (xzy H2.out ⟨#[41]⟩ (by have := HL2.out; rw [List.length_append, List.length_append]; show l.length + 1 + _ + 1 ≤ _; omega) S2.out).mono ?_);rintro e w3 ⟨rfl, h3, k3⟩;have H3 := hid h3;have K3 := hid (K2.out.trans k3);clear h3 k3;go_wp2
     go_end0
     refine ⟨rfl, ?_, K3.out⟩;rw [Hv1.out, show l ++ xj7 true (ndX ts j) = l ++ [40] ++ ndX ts j ++ bytesOf ⟨#[41]⟩ by unfold xj7; rw [if_pos rfl, show bytesOf ⟨#[41]⟩ = [41] from rfl]; simp];exact H3.out
 · have ct : w.cell? ⟨1, 20, none⟩ = some (.int .i64 2) := HTw 5 (by decide) 0 _ rfl;have HVv : Hid (decide (2 < firm) = v) := by show _ = _; rw [← HV.out, Hkn.out]; rfl
   clear HTw HV Hkn;by_cases hle : firm ≤ 2
   · have hfi : (firm : Int) ≤ 2 := by omega
     have Hv0 : Hid (v = false) := by show _ = _; rw [← HVv.out]; exact decide_eq_false (by omega)
     go_enter Tryz.func127, Tryz.ntmps127;go_wp2_with (go_at_call 96; refine (HN.out w q l HB0.out H0.out (by have := HL.out; rw [Hv0.out] at this; exact this)).mono ?_);rintro e w1 ⟨rfl, h1, k1⟩;have H1 := hid h1;have K1 := hid k1;clear h1 k1;go_wp2
     first | go_end0 | refine bodyPost_ret (results_none rfl _ _ _) rfl ?_
     exact ⟨rfl, by rw [Hv0.out]; exact H1.out, K1.out⟩
   · have hfi : (2 : Int) < firm := by omega
     have Hv1 : Hid (v = true) := by show _ = _; rw [← HVv.out]; exact decide_eq_true (by omega)
     have HL2 : Hid (l.length + (ndX ts j).length + 2 ≤ 10000000000000) := by
      have h1 := HL.out;rw [Hv1.out] at h1;have h2 : (xj7 true (ndX ts j)).length = (ndX ts j).length + 2 := by unfold xj7; rw [if_pos rfl]; simp
      show _ ≤ _;omega
     have hle2 : (firm : Int) ≤ 4 := by omega
     go_enter Tryz.func127, Tryz.ntmps127;go_wp2_with (go_at_call 126; refine (xzy H0.out ⟨#[40]⟩ (by have := HL2.out; show l.length + 1 ≤ _; omega) HSZ.out).mono ?_);rintro e w1 ⟨rfl, h1, k1⟩;have H1 : Hid (Bd_w w1 w0.heap.size q _ N D (l ++ [40])) := h1;have K1 := hid k1;have S1 := hid (Nat.le_trans HSZ.out k1.size);have B1 := hid (HB0.out.trans (k1.low HQ.out HSZ.out));clear h1 k1;go_wp2_with (go_at_call 96; refine (HN.out w1 q (l ++ [40]) B1.out H1.out (by have := HL2.out; rw [List.length_append]; show l.length + 1 + _ ≤ _; omega)).mono ?_);rintro e w2 ⟨rfl, h2, k2⟩;have H2 := hid h2;have K2 := hid (K1.out.trans k2);have S2 := hid (Nat.le_trans S1.out k2.size);clear h2 k2;go_wp2_with (go_at_call 126; refine (xzy H2.out ⟨#[41]⟩ (by have := HL2.out; rw [List.length_append, List.length_append]; show l.length + 1 + _ + 1 ≤ _; omega) S2.out).mono ?_);rintro e w3 ⟨rfl, h3, k3⟩;have H3 := hid h3;have K3 := hid (K2.out.trans k3);clear h3 k3;go_wp2
     go_end0
     refine ⟨rfl, ?_, K3.out⟩;rw [Hv1.out, show l ++ xj7 true (ndX ts j) = l ++ [40] ++ ndX ts j ++ bytesOf ⟨#[41]⟩ by unfold xj7; rw [if_pos rfl, show bytesOf ⟨#[41]⟩ = [41] from rfl]; simp];exact H3.out
 · have ct : w.cell? ⟨1, 24, none⟩ = some (.int .i64 2) := HTw 6 (by decide) 0 _ rfl;have HVv : Hid (decide (2 < firm) = v) := by show _ = _; rw [← HV.out, Hkn.out]; rfl
   clear HTw HV Hkn;by_cases hle : firm ≤ 2
   · have hfi : (firm : Int) ≤ 2 := by omega
     have Hv0 : Hid (v = false) := by show _ = _; rw [← HVv.out]; exact decide_eq_false (by omega)
     go_enter Tryz.func127, Tryz.ntmps127;go_wp2_with (go_at_call 96; refine (HN.out w q l HB0.out H0.out (by have := HL.out; rw [Hv0.out] at this; exact this)).mono ?_);rintro e w1 ⟨rfl, h1, k1⟩;have H1 := hid h1;have K1 := hid k1;clear h1 k1;go_wp2
     first | go_end0 | refine bodyPost_ret (results_none rfl _ _ _) rfl ?_
     exact ⟨rfl, by rw [Hv0.out]; exact H1.out, K1.out⟩
   · have hfi : (2 : Int) < firm := by omega
     have Hv1 : Hid (v = true) := by show _ = _; rw [← HVv.out]; exact decide_eq_true (by omega)
     have HL2 : Hid (l.length + (ndX ts j).length + 2 ≤ 10000000000000) := by
      have h1 := HL.out;rw [Hv1.out] at h1;have h2 : (xj7 true (ndX ts j)).length = (ndX ts j).length + 2 := by unfold xj7; rw [if_pos rfl]; simp
      show _ ≤ _;omega
     have hle2 : (firm : Int) ≤ 4 := by omega
     go_enter Tryz.func127, Tryz.ntmps127;go_wp2_with (go_at_call 126; refine (xzy H0.out ⟨#[40]⟩ (by have := HL2.out; show l.length + 1 ≤ _; omega) HSZ.out).mono ?_);rintro e w1 ⟨rfl, h1, k1⟩;have H1 : Hid (Bd_w w1 w0.heap.size q _ N D (l ++ [40])) := h1;have K1 := hid k1;have S1 := hid (Nat.le_trans HSZ.out k1.size);have B1 := hid (HB0.out.trans (k1.low HQ.out HSZ.out));clear h1 k1;go_wp2_with (go_at_call 96; refine (HN.out w1 q (l ++ [40]) B1.out H1.out (by have := HL2.out; rw [List.length_append]; show l.length + 1 + _ ≤ _; omega)).mono ?_);rintro e w2 ⟨rfl, h2, k2⟩;have H2 := hid h2;have K2 := hid (K1.out.trans k2);have S2 := hid (Nat.le_trans S1.out k2.size);clear h2 k2;go_wp2_with (go_at_call 126; refine (xzy H2.out ⟨#[41]⟩ (by have := HL2.out; rw [List.length_append, List.length_append]; show l.length + 1 + _ + 1 ≤ _; omega) S2.out).mono ?_);rintro e w3 ⟨rfl, h3, k3⟩;have H3 := hid h3;have K3 := hid (K2.out.trans k3);clear h3 k3;go_wp2
     go_end0
     refine ⟨rfl, ?_, K3.out⟩;rw [Hv1.out, show l ++ xj7 true (ndX ts j) = l ++ [40] ++ ndX ts j ++ bytesOf ⟨#[41]⟩ by unfold xj7; rw [if_pos rfl, show bytesOf ⟨#[41]⟩ = [41] from rfl]; simp];exact H3.out
 · have ct : w.cell? ⟨1, 28, none⟩ = some (.int .i64 3) := HTw 7 (by decide) 0 _ rfl;have HVv : Hid (decide (3 < firm) = v) := by show _ = _; rw [← HV.out, Hkn.out]; rfl
   clear HTw HV Hkn;by_cases hle : firm ≤ 3
   · have hfi : (firm : Int) ≤ 3 := by omega
     have Hv0 : Hid (v = false) := by show _ = _; rw [← HVv.out]; exact decide_eq_false (by omega)
     go_enter Tryz.func127, Tryz.ntmps127;go_wp2_with (go_at_call 96; refine (HN.out w q l HB0.out H0.out (by have := HL.out; rw [Hv0.out] at this; exact this)).mono ?_);rintro e w1 ⟨rfl, h1, k1⟩;have H1 := hid h1;have K1 := hid k1;clear h1 k1;go_wp2
     first | go_end0 | refine bodyPost_ret (results_none rfl _ _ _) rfl ?_
     exact ⟨rfl, by rw [Hv0.out]; exact H1.out, K1.out⟩
   · have hfi : (3 : Int) < firm := by omega
     have Hv1 : Hid (v = true) := by show _ = _; rw [← HVv.out]; exact decide_eq_true (by omega)
     have HL2 : Hid (l.length + (ndX ts j).length + 2 ≤ 10000000000000) := by
      have h1 := HL.out;rw [Hv1.out] at h1;have h2 : (xj7 true (ndX ts j)).length = (ndX ts j).length + 2 := by unfold xj7; rw [if_pos rfl]; simp
      show _ ≤ _;omega
     have hle2 : (firm : Int) ≤ 4 := by omega
     go_enter Tryz.func127, Tryz.ntmps127;go_wp2_with (go_at_call 126; refine (xzy H0.out ⟨#[40]⟩ (by have := HL2.out; show l.length + 1 ≤ _; omega) HSZ.out).mono ?_);rintro e w1 ⟨rfl, h1, k1⟩;have H1 : Hid (Bd_w w1 w0.heap.size q _ N D (l ++ [40])) := h1;have K1 := hid k1;have S1 := hid (Nat.le_trans HSZ.out k1.size);have B1 := hid (HB0.out.trans (k1.low HQ.out HSZ.out));clear h1 k1;go_wp2_with (go_at_call 96; refine (HN.out w1 q (l ++ [40]) B1.out H1.out (by have := HL2.out; rw [List.length_append]; show l.length + 1 + _ ≤ _; omega)).mono ?_);rintro e w2 ⟨rfl, h2, k2⟩;have H2 := hid h2;have K2 := hid (K1.out.trans k2);have S2 := hid (Nat.le_trans S1.out k2.size);clear h2 k2;go_wp2_with (go_at_call 126; refine (xzy H2.out ⟨#[41]⟩ (by have := HL2.out; rw [List.length_append, List.length_append]; show l.length + 1 + _ + 1 ≤ _; omega) S2.out).mono ?_);rintro e w3 ⟨rfl, h3, k3⟩;have H3 := hid h3;have K3 := hid (K2.out.trans k3);clear h3 k3;go_wp2
     go_end0
     refine ⟨rfl, ?_, K3.out⟩;rw [Hv1.out, show l ++ xj7 true (ndX ts j) = l ++ [40] ++ ndX ts j ++ bytesOf ⟨#[41]⟩ by unfold xj7; rw [if_pos rfl, show bytesOf ⟨#[41]⟩ = [41] from rfl]; simp];exact H3.out
 · have ct : w.cell? ⟨1, 32, none⟩ = some (.int .i64 3) := HTw 8 (by decide) 0 _ rfl;have HVv : Hid (decide (3 < firm) = v) := by show _ = _; rw [← HV.out, Hkn.out]; rfl
   clear HTw HV Hkn;by_cases hle : firm ≤ 3
   · have hfi : (firm : Int) ≤ 3 := by omega
     have Hv0 : Hid (v = false) := by show _ = _; rw [← HVv.out]; exact decide_eq_false (by omega)
     go_enter Tryz.func127, Tryz.ntmps127;go_wp2_with (go_at_call 96; refine (HN.out w q l HB0.out H0.out (by have := HL.out; rw [Hv0.out] at this; exact this)).mono ?_);rintro e w1 ⟨rfl, h1, k1⟩;have H1 := hid h1;have K1 := hid k1;clear h1 k1;go_wp2
     first | go_end0 | refine bodyPost_ret (results_none rfl _ _ _) rfl ?_
     exact ⟨rfl, by rw [Hv0.out]; exact H1.out, K1.out⟩
   · have hfi : (3 : Int) < firm := by omega
     have Hv1 : Hid (v = true) := by show _ = _; rw [← HVv.out]; exact decide_eq_true (by omega)
     have HL2 : Hid (l.length + (ndX ts j).length + 2 ≤ 10000000000000) := by
      have h1 := HL.out;rw [Hv1.out] at h1;have h2 : (xj7 true (ndX ts j)).length = (ndX ts j).length + 2 := by unfold xj7; rw [if_pos rfl]; simp
      show _ ≤ _;omega
     have hle2 : (firm : Int) ≤ 4 := by omega
     go_enter Tryz.func127, Tryz.ntmps127;go_wp2_with (go_at_call 126; refine (xzy H0.out ⟨#[40]⟩ (by have := HL2.out; show l.length + 1 ≤ _; omega) HSZ.out).mono ?_);rintro e w1 ⟨rfl, h1, k1⟩;have H1 : Hid (Bd_w w1 w0.heap.size q _ N D (l ++ [40])) := h1;have K1 := hid k1;have S1 := hid (Nat.le_trans HSZ.out k1.size);have B1 := hid (HB0.out.trans (k1.low HQ.out HSZ.out));clear h1 k1;go_wp2_with (go_at_call 96; refine (HN.out w1 q (l ++ [40]) B1.out H1.out (by have := HL2.out; rw [List.length_append]; show l.length + 1 + _ ≤ _; omega)).mono ?_);rintro e w2 ⟨rfl, h2, k2⟩;have H2 := hid h2;have K2 := hid (K1.out.trans k2);have S2 := hid (Nat.le_trans S1.out k2.size);clear h2 k2;go_wp2_with (go_at_call 126; refine (xzy H2.out ⟨#[41]⟩ (by have := HL2.out; rw [List.length_append, List.length_append]; show l.length + 1 + _ + 1 ≤ _; omega) S2.out).mono ?_);rintro e w3 ⟨rfl, h3, k3⟩;have H3 := hid h3;have K3 := hid (K2.out.trans k3);clear h3 k3;go_wp2
     go_end0
     refine ⟨rfl, ?_, K3.out⟩;rw [Hv1.out, show l ++ xj7 true (ndX ts j) = l ++ [40] ++ ndX ts j ++ bytesOf ⟨#[41]⟩ by unfold xj7; rw [if_pos rfl, show bytesOf ⟨#[41]⟩ = [41] from rfl]; simp];exact H3.out
theorem kn_of {ts : List Nd} (hg : xq5 ts = true) {j : Nat} (hj : j < ts.length) : 1 ≤ xwc ts j ∧ xwc ts j ≤ 8 := by
 have hx : ts[j]? = some ts[j] := List.getElem?_eq_getElem hj;rw [kndI_at hx];exact zq8 (xzg hg hx).1
theorem bOwn_all (k : Fin 9) (h : k.val ≠ 0) : decide (bOwn k.val < 1) = false ∧ decide (bOwn k.val < 2) = xje (k.val : Int) ∧ decide (bOwn k.val < 3) = xq8 (k.val : Int) ∧ decide (bOwn k.val < 4) = !(decide ((k.val : Int) = 1) || decide ((k.val : Int) = 2)) := by
 revert k; decide
theorem bOwn_at {k : Int} (h : 1 ≤ k ∧ k ≤ 8) : decide (bOwn k.toNat < 1) = false ∧ decide (bOwn k.toNat < 2) = xje k ∧ decide (bOwn k.toNat < 3) = xq8 k ∧ decide (bOwn k.toNat < 4) = !(decide (k = 1) || decide (k = 2)) := by
 have := bOwn_all ⟨k.toNat, by omega⟩ (by show k.toNat ≠ 0; omega)
 rwa [show (((⟨k.toNat, by omega⟩ : Fin 9).val : Nat) : Int) = k by show ((k.toNat : Nat) : Int) = k; omega] at this
theorem bOwn1 {k : Int} (h : 1 ≤ k ∧ k ≤ 8) : decide (bOwn k.toNat < 1) = false := (bOwn_at h).1
theorem bOwn2 {k : Int} (h : 1 ≤ k ∧ k ≤ 8) : decide (bOwn k.toNat < 2) = xje k := (bOwn_at h).2.1
theorem bOwn3 {k : Int} (h : 1 ≤ k ∧ k ≤ 8) : decide (bOwn k.toNat < 3) = xq8 k := (bOwn_at h).2.2.1
theorem bOwn4 {k : Int} (h : 1 ≤ k ∧ k ≤ 8) : decide (bOwn k.toNat < 4) = !(decide (k = 1) || decide (k = 2)) := (bOwn_at h).2.2.2
theorem fits_pow64 {x : Nd} (h : xjw x = true) (hk : x.k = 8) : -64 ≤ x.n ∧ x.n ≤ 64 := by
 unfold xjw at h;rw [if_neg (by omega), if_neg (by omega), if_neg (by rw [hk]; decide), if_neg (by omega), if_pos hk] at h;simp only [Bool.and_eq_true, decide_eq_true_eq] at h;omega
theorem ywx {j : Int} (h : -64 ≤ j ∧ j ≤ 64) : (zT j).length ≤ 4 := by
 have hd : ∀ k : Fin 65, (yvt k.val).length ≤ 2 := by decide +kernel
 have h9 : (yvt j.natAbs).length ≤ 2 := hd ⟨j.natAbs, by omega⟩;unfold zT
 split
 · rw [List.length_cons]; omega
 · omega
set_option maxRecDepth 100000 in
theorem wNode_ref {w0 : World} {C : Option Addr} {N D : Nat} {ts : List Nd} (hg : xq5 ts = true) (hm : Mild ts) (HR : TreR w0 C N D ts) (HT : BTab w0) (HP : P10 w0) {i : Nat} (hi : i < ts.length) (ih : ∀ j, j < i → xzr w0 C N D ts j) {x : Nd} (hx : ts[i]? = some x) (hk : x.k = 2) : xzr w0 C N D ts i := by
 intro w q l hb h hl;obtain ⟨hf, h1c, h2c⟩ := xzg hg hx;obtain ⟨hq, hqs, c0⟩ := h.low;have hsz := hb.size;have HTw := HT.below hb;have hmx := hm.at hx;obtain ⟨g, og, rfl, hgl, hin⟩ := (HR.below hb).at hx;have hNl := HR.len;have hiN : i < N := by omega
 obtain ⟨hND, hDm⟩ : N ≤ D ∧ D ≤ maxLen := ⟨HR.2.1, HR.2.2.1⟩;have eq1 : maxLen = 9223372036854775807 := rfl;obtain ⟨k, a, b, n', t, u, p'⟩ := x;dsimp only at hk h1c h2c hmx hin;subst hk;have hXe : ndX ts i = bytesOf t := ndX_ref hx rfl;have HXe := hid hXe;clear hXe;have HI1 : Hid (InV w g (og + i * 7) (ndC 2 a b n' t u p')) := hin;have HM1 : Hid (xq7 Tryz.prog 51 (ndC 2 a b n' t u p').size) := xjx _ _ _ _ _ _ _;have HU1 : Hid (xq7 Tryz.prog 51 (ndC 2 a b n' t u p').size ∧ zN.size = (ndC 2 a b n' t u p').size ∧ ∀ v ∈ ndC 2 a b n' t u p', v.oneCell' = true) := xz0 ⟨2, a, b, n', t, u, p'⟩ zNd;have b1 := xqc w (.cells (ndC 2 a b n' t u p') 51);have HI2 : Hid (InV (w.alloc (.cells (ndC 2 a b n' t u p') 51)) 1 8 (bdC 4 0 0 (strOf []))) := (tabB 2 4 0 0 [] (by decide) (by decide) HTw).below HTw.lt b1;have HM2 : Hid (xq7 Tryz.prog 153 (bdC 4 0 0 (strOf [])).size) := yj3 _ _ _ _;have HU2 : Hid (xq7 Tryz.prog 153 (bdC 4 0 0 (strOf [])).size ∧ zBd.size = (bdC 4 0 0 (strOf [])).size ∧ ∀ v ∈ bdC 4 0 0 (strOf []), v.oneCell' = true) := yvh _ _ _ _;have b2 := xqc (w.alloc (.cells (ndC 2 a b n' t u p') 51)) (.cells (bdC 4 0 0 (strOf [])) 153);have hX1 := xqd w 51 (ndC 2 a b n' t u p');have k0 := hX1.cell (k := 0) (v := .int .i64 2) rfl;have HX := hid (hX1.below b2);have hY := xqd (w.alloc (.cells (ndC 2 a b n' t u p') 51)) 153 (bdC 4 0 0 (strOf []));have k0' : ((w.alloc (.cells (ndC 2 a b n' t u p') 51)).alloc (.cells (bdC 4 0 0 (strOf [])) 153)).cell? ⟨w.heap.size, 0, none⟩ = some (.int .i64 2) := HX.out.cell rfl
 have bw := xqa b1 b2;have H0 := hid (h.below bw);have K0 := hid (KnW.below (B := w0.heap.size) (q := q) bw);have B0 := hid (hb.trans (bw.mono hsz));have S0 := hid (Nat.le_trans hsz bw.size);have HL := hid hl;have HQ := hid hq;have Hqx : Hid (w.heap.size ≠ q ∧ w.heap.size + 1 ≠ q) := by constructor <;> omega
 have HY : Hid (RowA ((w.alloc (.cells (ndC 2 a b n' t u p') 51)).alloc (.cells (bdC 4 0 0 (strOf [])) 153)) (w.heap.size + 1) 153 (bdC 4 0 0 (strOf []))) := by
  rw [World.size_alloc] at hY;exact hY
 have Hig := hid ih;have HG := hid hg;have HRR := hid HR;have HTT := hid HT;have HPP := hid HP;clear ih h hb hl hq hqs hsz hin hX1 hY bw b1 b2 hgl HTw hg HR HT HP hx hf h1c h2c hNl;go_enter Tryz.func96, Tryz.ntmps96
 go_upto_region 2 with (first | (refine xqf (by rfl) _ _ (by rfl) _ _ (by rfl) _ (by assumption) (by assumption) ?_) | (refine xqg (by rfl) _ _ _ (by rfl) _ _ _ (by rfl) (by rfl) (by assumption) ?_))
 clear k0 k0' HI1 HI2 HM1 HM2 HU1 HU2 c0;generalize (w.alloc (.cells (ndC 2 a b n' t u p') 51)).alloc (.cells (bdC 4 0 0 (strOf [])) 153) = wa at *;obtain ⟨gx, hgx⟩ : ∃ y, y = w.heap.size := ⟨_, rfl⟩;obtain ⟨gy, hgy⟩ : ∃ y, y = w.heap.size + 1 := ⟨_, rfl⟩
 try rw [← hgy]
 try rw [← hgx]
 rw [← hgy] at HY Hqx;rw [← hgx] at HX Hqx;clear hgx hgy;have k0 := HX.out.cell (k := 0) (v := .int .i64 2) rfl;have k4 := HX.out.cell (k := 4) (v := .string t) rfl;go_wp2_with (first | (go_at_call 126; refine (xzy H0.out t (by have h1 := HL.out; rw [HXe.out, xqe] at h1; omega) S0.out).mono ?_));rintro e w1 ⟨rfl, hh, kk⟩;have H1 : Hid (Bd_w w1 w0.heap.size q (some ⟨g, og, none⟩) N D (l ++ bytesOf t)) := hh;have K1 := hid (K0.out.trans kk);have S1 := hid (Nat.le_trans S0.out kk.size);have B1 := hid (B0.out.trans (kk.low HQ.out S0.out));replace HX := hid (kk.row HX.out Hqx.out.1 (by decide));replace HY := hid (kk.row HY.out Hqx.out.2 (by decide));clear hh kk H0 K0 S0 B0 k0 k4;go_wp2
 go_end0
 refine ⟨rfl, ?_, K1.out⟩;rw [HXe.out];exact H1.out
set_option maxRecDepth 100000 in
theorem wNode_lit0 {w0 : World} {C : Option Addr} {N D : Nat} {ts : List Nd} (hg : xq5 ts = true) (hm : Mild ts) (HR : TreR w0 C N D ts) (HT : BTab w0) (HP : P10 w0) {i : Nat} (hi : i < ts.length) (ih : ∀ j, j < i → xzr w0 C N D ts j) {x : Nd} (hx : ts[i]? = some x) (hk : x.k = 1) (hu0 : x.u.size = 0) : xzr w0 C N D ts i := by
 intro w q l hb h hl;obtain ⟨hf, h1c, h2c⟩ := xzg hg hx;obtain ⟨hq, hqs, c0⟩ := h.low;have hsz := hb.size;have HTw := HT.below hb;have hmx := hm.at hx;obtain ⟨g, og, rfl, hgl, hin⟩ := (HR.below hb).at hx;have hNl := HR.len;have hiN : i < N := by omega
 obtain ⟨hND, hDm⟩ : N ≤ D ∧ D ≤ maxLen := ⟨HR.2.1, HR.2.2.1⟩;have eq1 : maxLen = 9223372036854775807 := rfl;obtain ⟨k, a, b, n', t, u, p'⟩ := x;dsimp only at hk hu0 h1c h2c hmx hin;subst hk;have hXe : ndX ts i = bytesOf t := by
  rw [ndX_lit hx rfl];show bytesOf t ++ unX u = _;unfold unX;rw [if_pos hu0, List.append_nil]
 have HXe := hid hXe;obtain rfl := xwe hu0;clear hXe hu0;have HI1 : Hid (InV w g (og + i * 7) (ndC 1 a b n' t ⟨#[]⟩ p')) := hin;have HM1 : Hid (xq7 Tryz.prog 51 (ndC 1 a b n' t ⟨#[]⟩ p').size) := xjx _ _ _ _ _ _ _;have HU1 : Hid (xq7 Tryz.prog 51 (ndC 1 a b n' t ⟨#[]⟩ p').size ∧ zN.size = (ndC 1 a b n' t ⟨#[]⟩ p').size ∧ ∀ v ∈ ndC 1 a b n' t ⟨#[]⟩ p', v.oneCell' = true) := xz0 ⟨1, a, b, n', t, ⟨#[]⟩, p'⟩ zNd;have b1 := xqc w (.cells (ndC 1 a b n' t ⟨#[]⟩ p') 51);have HI2 : Hid (InV (w.alloc (.cells (ndC 1 a b n' t ⟨#[]⟩ p') 51)) 1 4 (bdC 4 0 0 (strOf []))) := (tabB 1 4 0 0 [] (by decide) (by decide) HTw).below HTw.lt b1;have HM2 : Hid (xq7 Tryz.prog 153 (bdC 4 0 0 (strOf [])).size) := yj3 _ _ _ _;have HU2 : Hid (xq7 Tryz.prog 153 (bdC 4 0 0 (strOf [])).size ∧ zBd.size = (bdC 4 0 0 (strOf [])).size ∧ ∀ v ∈ bdC 4 0 0 (strOf []), v.oneCell' = true) := yvh _ _ _ _;have b2 := xqc (w.alloc (.cells (ndC 1 a b n' t ⟨#[]⟩ p') 51)) (.cells (bdC 4 0 0 (strOf [])) 153);have hX1 := xqd w 51 (ndC 1 a b n' t ⟨#[]⟩ p');have k0 := hX1.cell (k := 0) (v := .int .i64 1) rfl;have HX := hid (hX1.below b2);have hY := xqd (w.alloc (.cells (ndC 1 a b n' t ⟨#[]⟩ p') 51)) 153 (bdC 4 0 0 (strOf []));have k0' : ((w.alloc (.cells (ndC 1 a b n' t ⟨#[]⟩ p') 51)).alloc (.cells (bdC 4 0 0 (strOf [])) 153)).cell? ⟨w.heap.size, 0, none⟩ = some (.int .i64 1) := HX.out.cell rfl;have bw := xqa b1 b2;have H0 := hid (h.below bw);have K0 := hid (KnW.below (B := w0.heap.size) (q := q) bw)
 have B0 := hid (hb.trans (bw.mono hsz));have S0 := hid (Nat.le_trans hsz bw.size);have HL := hid hl;have HQ := hid hq;have Hqx : Hid (w.heap.size ≠ q ∧ w.heap.size + 1 ≠ q) := by constructor <;> omega
 have HY : Hid (RowA ((w.alloc (.cells (ndC 1 a b n' t ⟨#[]⟩ p') 51)).alloc (.cells (bdC 4 0 0 (strOf [])) 153)) (w.heap.size + 1) 153 (bdC 4 0 0 (strOf []))) := by
  rw [World.size_alloc] at hY;exact hY
 have Hig := hid ih;have HG := hid hg;have HRR := hid HR;have HTT := hid HT;have HPP := hid HP;clear ih h hb hl hq hqs hsz hin hX1 hY bw b1 b2 hgl HTw hg HR HT HP hx hf h1c h2c hNl;go_enter Tryz.func96, Tryz.ntmps96
 go_upto_region 2 with (first | (refine xqf (by rfl) _ _ (by rfl) _ _ (by rfl) _ (by assumption) (by assumption) ?_) | (refine xqg (by rfl) _ _ _ (by rfl) _ _ _ (by rfl) (by rfl) (by assumption) ?_))
 clear k0 k0' HI1 HI2 HM1 HM2 HU1 HU2 c0;generalize (w.alloc (.cells (ndC 1 a b n' t ⟨#[]⟩ p') 51)).alloc (.cells (bdC 4 0 0 (strOf [])) 153) = wa at *;obtain ⟨gx, hgx⟩ : ∃ y, y = w.heap.size := ⟨_, rfl⟩;obtain ⟨gy, hgy⟩ : ∃ y, y = w.heap.size + 1 := ⟨_, rfl⟩
 try rw [← hgy]
 try rw [← hgx]
 rw [← hgy] at HY Hqx;rw [← hgx] at HX Hqx;clear hgx hgy;have k0 := HX.out.cell (k := 0) (v := .int .i64 1) rfl;have k4 := HX.out.cell (k := 4) (v := .string t) rfl;go_wp2_with (first | (go_at_call 126; refine (xzy H0.out t (by have h1 := HL.out; rw [HXe.out, xqe] at h1; omega) S0.out).mono ?_));rintro e w1 ⟨rfl, hh, kk⟩;have H1 : Hid (Bd_w w1 w0.heap.size q (some ⟨g, og, none⟩) N D (l ++ bytesOf t)) := hh;have K1 := hid (K0.out.trans kk);have S1 := hid (Nat.le_trans S0.out kk.size);have B1 := hid (B0.out.trans (kk.low HQ.out S0.out));replace HX := hid (kk.row HX.out Hqx.out.1 (by decide));replace HY := hid (kk.row HY.out Hqx.out.2 (by decide));clear hh kk H0 K0 S0 B0 k0 k4;have k5 := HX.out.cell (k := 5) (v := .string ⟨#[]⟩) rfl;go_wp2
 go_end0
 refine ⟨rfl, ?_, K1.out⟩;rw [HXe.out];exact H1.out
set_option maxRecDepth 100000 in
theorem wNode_lit1 {w0 : World} {C : Option Addr} {N D : Nat} {ts : List Nd} (hg : xq5 ts = true) (hm : Mild ts) (HR : TreR w0 C N D ts) (HT : BTab w0) (HP : P10 w0) {i : Nat} (hi : i < ts.length) (ih : ∀ j, j < i → xzr w0 C N D ts j) {x : Nd} (hx : ts[i]? = some x) (hk : x.k = 1) (hu0 : ¬ x.u.size = 0) : xzr w0 C N D ts i := by
 intro w q l hb h hl;obtain ⟨hf, h1c, h2c⟩ := xzg hg hx;obtain ⟨hq, hqs, c0⟩ := h.low;have hsz := hb.size;have HTw := HT.below hb;have hmx := hm.at hx;obtain ⟨g, og, rfl, hgl, hin⟩ := (HR.below hb).at hx;have hNl := HR.len;have hiN : i < N := by omega
 obtain ⟨hND, hDm⟩ : N ≤ D ∧ D ≤ maxLen := ⟨HR.2.1, HR.2.2.1⟩;have eq1 : maxLen = 9223372036854775807 := rfl;obtain ⟨k, a, b, n', t, u, p'⟩ := x;dsimp only at hk hu0 h1c h2c hmx hin;subst hk;have hXe : ndX ts i = bytesOf t ++ 32 :: 91 :: (bytesOf u ++ [93]) := by
  rw [ndX_lit hx rfl];show bytesOf t ++ unX u = _;unfold unX;rw [if_neg hu0]
 have HXe := hid hXe;have Hu0 := hid hu0;clear hXe hu0;have HI1 : Hid (InV w g (og + i * 7) (ndC 1 a b n' t u p')) := hin;have HM1 : Hid (xq7 Tryz.prog 51 (ndC 1 a b n' t u p').size) := xjx _ _ _ _ _ _ _;have HU1 : Hid (xq7 Tryz.prog 51 (ndC 1 a b n' t u p').size ∧ zN.size = (ndC 1 a b n' t u p').size ∧ ∀ v ∈ ndC 1 a b n' t u p', v.oneCell' = true) := xz0 ⟨1, a, b, n', t, u, p'⟩ zNd;have b1 := xqc w (.cells (ndC 1 a b n' t u p') 51);have HI2 : Hid (InV (w.alloc (.cells (ndC 1 a b n' t u p') 51)) 1 4 (bdC 4 0 0 (strOf []))) := (tabB 1 4 0 0 [] (by decide) (by decide) HTw).below HTw.lt b1;have HM2 : Hid (xq7 Tryz.prog 153 (bdC 4 0 0 (strOf [])).size) := yj3 _ _ _ _;have HU2 : Hid (xq7 Tryz.prog 153 (bdC 4 0 0 (strOf [])).size ∧ zBd.size = (bdC 4 0 0 (strOf [])).size ∧ ∀ v ∈ bdC 4 0 0 (strOf []), v.oneCell' = true) := yvh _ _ _ _;have b2 := xqc (w.alloc (.cells (ndC 1 a b n' t u p') 51)) (.cells (bdC 4 0 0 (strOf [])) 153);have hX1 := xqd w 51 (ndC 1 a b n' t u p');have k0 := hX1.cell (k := 0) (v := .int .i64 1) rfl;have HX := hid (hX1.below b2);have hY := xqd (w.alloc (.cells (ndC 1 a b n' t u p') 51)) 153 (bdC 4 0 0 (strOf []));have k0' : ((w.alloc (.cells (ndC 1 a b n' t u p') 51)).alloc (.cells (bdC 4 0 0 (strOf [])) 153)).cell? ⟨w.heap.size, 0, none⟩ = some (.int .i64 1) := HX.out.cell rfl;have bw := xqa b1 b2;have H0 := hid (h.below bw);have K0 := hid (KnW.below (B := w0.heap.size) (q := q) bw);have B0 := hid (hb.trans (bw.mono hsz))
 have S0 := hid (Nat.le_trans hsz bw.size);have HL := hid hl;have HQ := hid hq;have Hqx : Hid (w.heap.size ≠ q ∧ w.heap.size + 1 ≠ q) := by constructor <;> omega
 have HY : Hid (RowA ((w.alloc (.cells (ndC 1 a b n' t u p') 51)).alloc (.cells (bdC 4 0 0 (strOf [])) 153)) (w.heap.size + 1) 153 (bdC 4 0 0 (strOf []))) := by
  rw [World.size_alloc] at hY;exact hY
 have Hig := hid ih;have HG := hid hg;have HRR := hid HR;have HTT := hid HT;have HPP := hid HP;clear ih h hb hl hq hqs hsz hin hX1 hY bw b1 b2 hgl HTw hg HR HT HP hx hf h1c h2c hNl;go_enter Tryz.func96, Tryz.ntmps96
 go_upto_region 2 with (first | (refine xqf (by rfl) _ _ (by rfl) _ _ (by rfl) _ (by assumption) (by assumption) ?_) | (refine xqg (by rfl) _ _ _ (by rfl) _ _ _ (by rfl) (by rfl) (by assumption) ?_))
 clear k0 k0' HI1 HI2 HM1 HM2 HU1 HU2 c0;generalize (w.alloc (.cells (ndC 1 a b n' t u p') 51)).alloc (.cells (bdC 4 0 0 (strOf [])) 153) = wa at *;obtain ⟨gx, hgx⟩ : ∃ y, y = w.heap.size := ⟨_, rfl⟩;obtain ⟨gy, hgy⟩ : ∃ y, y = w.heap.size + 1 := ⟨_, rfl⟩
 try rw [← hgy]
 try rw [← hgx]
 rw [← hgy] at HY Hqx;rw [← hgx] at HX Hqx;clear hgx hgy;have k0 := HX.out.cell (k := 0) (v := .int .i64 1) rfl;have k4 := HX.out.cell (k := 4) (v := .string t) rfl;go_wp2_with (first | (go_at_call 126; refine (xzy H0.out t (by have h1 := HL.out; rw [HXe.out] at h1; simp only [List.length_append, xqe] at h1; omega) S0.out).mono ?_));rintro e w1 ⟨rfl, hh, kk⟩;have H1 : Hid (Bd_w w1 w0.heap.size q (some ⟨g, og, none⟩) N D (l ++ bytesOf t)) := hh;have K1 := hid (K0.out.trans kk);have S1 := hid (Nat.le_trans S0.out kk.size);have B1 := hid (B0.out.trans (kk.low HQ.out S0.out));replace HX := hid (kk.row HX.out Hqx.out.1 (by decide));replace HY := hid (kk.row HY.out Hqx.out.2 (by decide));clear hh kk H0 K0 S0 B0 k0 k4;have k5 := HX.out.cell (k := 5) (v := .string u) rfl;have hne : ¬ u.toList = [] := by
  intro e;rw [ByteArray.toList_eq] at e;exact Hu0.out (by show u.data.size = 0; rw [← Array.length_toList, e]; rfl)
 have hne2 : (!u.toList.isEmpty) = true := by
  cases he : u.toList with
  | nil => exact absurd he hne
  | cons c r => rfl
 obtain ⟨R, hR⟩ : ∃ R : ByteArray, strOf (91 :: (bytesOf u ++ [93])) = R := ⟨_, rfl⟩;have hu6 : u.size ≤ 1000000 := hmx.2;have hRs : R.size ≤ 1000002 := by rw [← hR, xqh]; simp [xqe]; omega
 have hbR : Hid (bytesOf ((⟨#[32]⟩ : ByteArray) ++ R) = 32 :: 91 :: (bytesOf u ++ [93])) := by
  show _ = _;rw [← hR, show (⟨#[32]⟩ : ByteArray) = strOf [32] from rfl, xjh];exact xqk (xqm (by decide) (xqm (by decide) (xjj (xjg u) (xqm (by decide) fun c hc => by cases hc))))
 have Hsz : Hid (((⟨#[32]⟩ : ByteArray) ++ R).size ≤ u.size + 3) := by show _ ≤ _; rw [ByteArray.size_append, ← hR, xqh]; show 1 + _ ≤ _; simp [xqe]; omega
 have HR2 := hid hR;clear hR;go_wp2_with (first | (go_at_call 98; refine (wBr_u u hu6 R HR2.out w1).mono ?_; rintro e wz ⟨rfl, rfl⟩) | (go_at_call 126; refine (xzy H1.out ((⟨#[32]⟩ : ByteArray) ++ R) (by have h1 := HL.out; rw [HXe.out] at h1; have h2 := Hsz.out; simp only [List.length_append, List.length_cons, List.length_nil, xqe] at h1 ⊢; omega) S1.out).mono ?_));rintro e w2 ⟨rfl, hh, kk⟩;have H2 : Hid (Bd_w w2 w0.heap.size q (some ⟨g, og, none⟩) N D (l ++ bytesOf t ++ (32 :: 91 :: (bytesOf u ++ [93])))) := by rw [hbR.out] at hh; exact hh
 have K2 := hid (K1.out.trans kk);have S2 := hid (Nat.le_trans S1.out kk.size);have B2 := hid (B1.out.trans (kk.low HQ.out S1.out));replace HX := hid (kk.row HX.out Hqx.out.1 (by decide));replace HY := hid (kk.row HY.out Hqx.out.2 (by decide));clear hh kk H1 K1 S1 B1 k5;go_wp2
 go_end0
 refine ⟨rfl, ?_, K2.out⟩;rw [HXe.out, ← List.append_assoc];exact H2.out
set_option maxRecDepth 100000 in
theorem wNode_neg {w0 : World} {C : Option Addr} {N D : Nat} {ts : List Nd} (hg : xq5 ts = true) (hm : Mild ts) (HR : TreR w0 C N D ts) (HT : BTab w0) (HP : P10 w0) {i : Nat} (hi : i < ts.length) (ih : ∀ j, j < i → xzr w0 C N D ts j) {x : Nd} (hx : ts[i]? = some x) (hk : x.k = 7) : xzr w0 C N D ts i := by
 intro w q l hb h hl;obtain ⟨hf, h1c, h2c⟩ := xzg hg hx;obtain ⟨hq, hqs, c0⟩ := h.low;have hsz := hb.size;have HTw := HT.below hb;have hmx := hm.at hx;obtain ⟨g, og, rfl, hgl, hin⟩ := (HR.below hb).at hx;have hNl := HR.len;have hiN : i < N := by omega
 obtain ⟨hND, hDm⟩ : N ≤ D ∧ D ≤ maxLen := ⟨HR.2.1, HR.2.2.1⟩;have eq1 : maxLen = 9223372036854775807 := rfl;obtain ⟨k, a, b, n', t, u, p'⟩ := x;dsimp only at hk h1c h2c hmx hin;subst hk;obtain ⟨ca, ea, hca⟩ := h1c (by decide);subst ea;have hXe : ndX ts i = 45 :: xj7 (xq8 (xwc ts ca)) (ndX ts ca) := ndX_neg hx rfl rfl hca;have hca2 : ca < i ∧ ca < ts.length := ⟨hca, by omega⟩;have HXe := hid hXe;have hca := hid hca2;clear hXe hca2;have HI1 : Hid (InV w g (og + i * 7) (ndC 7 (ca : Int) b n' t u p')) := hin;have HM1 : Hid (xq7 Tryz.prog 51 (ndC 7 (ca : Int) b n' t u p').size) := xjx _ _ _ _ _ _ _;have HU1 : Hid (xq7 Tryz.prog 51 (ndC 7 (ca : Int) b n' t u p').size ∧ zN.size = (ndC 7 (ca : Int) b n' t u p').size ∧ ∀ v ∈ ndC 7 (ca : Int) b n' t u p', v.oneCell' = true) := xz0 ⟨7, (ca : Int), b, n', t, u, p'⟩ zNd;have b1 := xqc w (.cells (ndC 7 (ca : Int) b n' t u p') 51);have HI2 : Hid (InV (w.alloc (.cells (ndC 7 (ca : Int) b n' t u p') 51)) 1 28 (bdC 3 3 0 (strOf []))) := (tabB 7 3 3 0 [] (by decide) (by decide) HTw).below HTw.lt b1;have HM2 : Hid (xq7 Tryz.prog 153 (bdC 3 3 0 (strOf [])).size) := yj3 _ _ _ _;have HU2 : Hid (xq7 Tryz.prog 153 (bdC 3 3 0 (strOf [])).size ∧ zBd.size = (bdC 3 3 0 (strOf [])).size ∧ ∀ v ∈ bdC 3 3 0 (strOf []), v.oneCell' = true) := yvh _ _ _ _;have b2 := xqc (w.alloc (.cells (ndC 7 (ca : Int) b n' t u p') 51)) (.cells (bdC 3 3 0 (strOf [])) 153);have hX1 := xqd w 51 (ndC 7 (ca : Int) b n' t u p');have k0 := hX1.cell (k := 0) (v := .int .i64 7) rfl
 have HX := hid (hX1.below b2);have hY := xqd (w.alloc (.cells (ndC 7 (ca : Int) b n' t u p') 51)) 153 (bdC 3 3 0 (strOf []));have k0' : ((w.alloc (.cells (ndC 7 (ca : Int) b n' t u p') 51)).alloc (.cells (bdC 3 3 0 (strOf [])) 153)).cell? ⟨w.heap.size, 0, none⟩ = some (.int .i64 7) := HX.out.cell rfl;have bw := xqa b1 b2;have H0 := hid (h.below bw);have K0 := hid (KnW.below (B := w0.heap.size) (q := q) bw);have B0 := hid (hb.trans (bw.mono hsz));have S0 := hid (Nat.le_trans hsz bw.size);have HL := hid hl;have HQ := hid hq;have Hqx : Hid (w.heap.size ≠ q ∧ w.heap.size + 1 ≠ q) := by constructor <;> omega
 have HY : Hid (RowA ((w.alloc (.cells (ndC 7 (ca : Int) b n' t u p') 51)).alloc (.cells (bdC 3 3 0 (strOf [])) 153)) (w.heap.size + 1) 153 (bdC 3 3 0 (strOf []))) := by
  rw [World.size_alloc] at hY;exact hY
 have Hig := hid ih;have HG := hid hg;have HRR := hid HR;have HTT := hid HT;have HPP := hid HP;clear ih h hb hl hq hqs hsz hin hX1 hY bw b1 b2 hgl HTw hg HR HT HP hx hf h1c h2c hNl;go_enter Tryz.func96, Tryz.ntmps96
 go_upto_region 2 with (first | (refine xqf (by rfl) _ _ (by rfl) _ _ (by rfl) _ (by assumption) (by assumption) ?_) | (refine xqg (by rfl) _ _ _ (by rfl) _ _ _ (by rfl) (by rfl) (by assumption) ?_))
 clear k0 k0' HI1 HI2 HM1 HM2 HU1 HU2 c0;generalize (w.alloc (.cells (ndC 7 (ca : Int) b n' t u p') 51)).alloc (.cells (bdC 3 3 0 (strOf [])) 153) = wa at *;obtain ⟨gx, hgx⟩ : ∃ y, y = w.heap.size := ⟨_, rfl⟩;obtain ⟨gy, hgy⟩ : ∃ y, y = w.heap.size + 1 := ⟨_, rfl⟩
 try rw [← hgy]
 try rw [← hgx]
 rw [← hgy] at HY Hqx;rw [← hgx] at HX Hqx;clear hgx hgy;have k0 := HX.out.cell (k := 0) (v := .int .i64 7) rfl;go_wp2_with (first | (go_at_call 126; refine (xzy H0.out ⟨#[45]⟩ (by have h1 := HL.out; rw [HXe.out] at h1; simp only [List.length_cons] at h1; show l.length + 1 ≤ _; omega) S0.out).mono ?_));rintro e w1 ⟨rfl, hh, kk⟩;have H1 : Hid (Bd_w w1 w0.heap.size q (some ⟨g, og, none⟩) N D (l ++ [45])) := hh;have K1 := hid (K0.out.trans kk);have S1 := hid (Nat.le_trans S0.out kk.size);have B1 := hid (B0.out.trans (kk.low HQ.out S0.out));replace HX := hid (kk.row HX.out Hqx.out.1 (by decide));replace HY := hid (kk.row HY.out Hqx.out.2 (by decide));clear hh kk H0 K0 S0 B0 k0;have k1 := HX.out.cell (k := 1) (v := .int .i64 (ca : Int)) rfl;have k10 := HY.out.cell (k := 1) (v := .int .i64 3) rfl;go_wp2_with (go_at_call 127; refine (xvy HG.out HRR.out HTT.out (j := ca) (by have := hca.out.1; have := hca.out.2; omega) (Hig.out ca hca.out.1) 3 (by decide) (xq8 (xwc ts ca)) (bOwn3 (kn_of HG.out hca.out.2)) w1 q (l ++ [45]) B1.out H1.out (by have h1 := HL.out; rw [HXe.out] at h1; simp only [List.length_append, List.length_cons, List.length_nil] at h1 ⊢; omega)).mono ?_);rintro e w2 ⟨rfl, hh, kk⟩;have H2 : Hid (Bd_w w2 w0.heap.size q (some ⟨g, og, none⟩) N D (l ++ [45] ++ xj7 (xq8 (xwc ts ca)) (ndX ts ca))) := hh;have K2 := hid (K1.out.trans kk);have S2 := hid (Nat.le_trans S1.out kk.size);have B2 := hid (B1.out.trans (kk.low HQ.out S1.out));replace HX := hid (kk.row HX.out Hqx.out.1 (by decide))
 replace HY := hid (kk.row HY.out Hqx.out.2 (by decide));clear hh kk H1 K1 S1 B1 k1 k10;go_wp2
 go_end0
 refine ⟨rfl, ?_, K2.out⟩;rw [HXe.out, show l ++ 45 :: xj7 (xq8 (xwc ts ca)) (ndX ts ca) = l ++ [45] ++ xj7 (xq8 (xwc ts ca)) (ndX ts ca) by simp];exact H2.out
set_option maxRecDepth 100000 in
theorem wNode_pow {w0 : World} {C : Option Addr} {N D : Nat} {ts : List Nd} (hg : xq5 ts = true) (hm : Mild ts) (HR : TreR w0 C N D ts) (HT : BTab w0) (HP : P10 w0) {i : Nat} (hi : i < ts.length) (ih : ∀ j, j < i → xzr w0 C N D ts j) {x : Nd} (hx : ts[i]? = some x) (hk : x.k = 8) : xzr w0 C N D ts i := by
 intro w q l hb h hl;obtain ⟨hf, h1c, h2c⟩ := xzg hg hx;obtain ⟨hq, hqs, c0⟩ := h.low;have hsz := hb.size;have HTw := HT.below hb;have hmx := hm.at hx;obtain ⟨g, og, rfl, hgl, hin⟩ := (HR.below hb).at hx;have hNl := HR.len;have hiN : i < N := by omega
 obtain ⟨hND, hDm⟩ : N ≤ D ∧ D ≤ maxLen := ⟨HR.2.1, HR.2.2.1⟩;have eq1 : maxLen = 9223372036854775807 := rfl;obtain ⟨k, a, b, n', t, u, p'⟩ := x;dsimp only at hk h1c h2c hmx hin;subst hk;obtain ⟨ca, ea, hca⟩ := h1c (by decide);subst ea;have hXe : ndX ts i = xj7 (!(decide (xwc ts ca = 1) || decide (xwc ts ca = 2))) (ndX ts ca) ++ 94 :: zT n' := ndX_pow hx rfl rfl hca;have hca2 : ca < i ∧ ca < ts.length := ⟨hca, by omega⟩;have HXe := hid hXe;have hca := hid hca2;have hn64 : -64 ≤ n' ∧ n' ≤ 64 := fits_pow64 hf rfl;clear hXe hca2;have HI1 : Hid (InV w g (og + i * 7) (ndC 8 (ca : Int) b n' t u p')) := hin;have HM1 : Hid (xq7 Tryz.prog 51 (ndC 8 (ca : Int) b n' t u p').size) := xjx _ _ _ _ _ _ _;have HU1 : Hid (xq7 Tryz.prog 51 (ndC 8 (ca : Int) b n' t u p').size ∧ zN.size = (ndC 8 (ca : Int) b n' t u p').size ∧ ∀ v ∈ ndC 8 (ca : Int) b n' t u p', v.oneCell' = true) := xz0 ⟨8, (ca : Int), b, n', t, u, p'⟩ zNd;have b1 := xqc w (.cells (ndC 8 (ca : Int) b n' t u p') 51);have HI2 : Hid (InV (w.alloc (.cells (ndC 8 (ca : Int) b n' t u p') 51)) 1 32 (bdC 3 4 0 (strOf []))) := (tabB 8 3 4 0 [] (by decide) (by decide) HTw).below HTw.lt b1;have HM2 : Hid (xq7 Tryz.prog 153 (bdC 3 4 0 (strOf [])).size) := yj3 _ _ _ _;have HU2 : Hid (xq7 Tryz.prog 153 (bdC 3 4 0 (strOf [])).size ∧ zBd.size = (bdC 3 4 0 (strOf [])).size ∧ ∀ v ∈ bdC 3 4 0 (strOf []), v.oneCell' = true) := yvh _ _ _ _;have b2 := xqc (w.alloc (.cells (ndC 8 (ca : Int) b n' t u p') 51)) (.cells (bdC 3 4 0 (strOf [])) 153)
 have hX1 := xqd w 51 (ndC 8 (ca : Int) b n' t u p');have k0 := hX1.cell (k := 0) (v := .int .i64 8) rfl;have HX := hid (hX1.below b2);have hY := xqd (w.alloc (.cells (ndC 8 (ca : Int) b n' t u p') 51)) 153 (bdC 3 4 0 (strOf []));have k0' : ((w.alloc (.cells (ndC 8 (ca : Int) b n' t u p') 51)).alloc (.cells (bdC 3 4 0 (strOf [])) 153)).cell? ⟨w.heap.size, 0, none⟩ = some (.int .i64 8) := HX.out.cell rfl;have bw := xqa b1 b2;have H0 := hid (h.below bw);have K0 := hid (KnW.below (B := w0.heap.size) (q := q) bw);have B0 := hid (hb.trans (bw.mono hsz));have S0 := hid (Nat.le_trans hsz bw.size);have HL := hid hl;have HQ := hid hq;have Hqx : Hid (w.heap.size ≠ q ∧ w.heap.size + 1 ≠ q) := by constructor <;> omega
 have HY : Hid (RowA ((w.alloc (.cells (ndC 8 (ca : Int) b n' t u p') 51)).alloc (.cells (bdC 3 4 0 (strOf [])) 153)) (w.heap.size + 1) 153 (bdC 3 4 0 (strOf []))) := by
  rw [World.size_alloc] at hY;exact hY
 have Hig := hid ih;have HG := hid hg;have HRR := hid HR;have HTT := hid HT;have HPP := hid HP;clear ih h hb hl hq hqs hsz hin hX1 hY bw b1 b2 hgl HTw hg HR HT HP hx hf h1c h2c hNl;go_enter Tryz.func96, Tryz.ntmps96
 go_upto_region 2 with (first | (refine xqf (by rfl) _ _ (by rfl) _ _ (by rfl) _ (by assumption) (by assumption) ?_) | (refine xqg (by rfl) _ _ _ (by rfl) _ _ _ (by rfl) (by rfl) (by assumption) ?_))
 clear k0 k0' HI1 HI2 HM1 HM2 HU1 HU2 c0;generalize (w.alloc (.cells (ndC 8 (ca : Int) b n' t u p') 51)).alloc (.cells (bdC 3 4 0 (strOf [])) 153) = wa at *;obtain ⟨gx, hgx⟩ : ∃ y, y = w.heap.size := ⟨_, rfl⟩;obtain ⟨gy, hgy⟩ : ∃ y, y = w.heap.size + 1 := ⟨_, rfl⟩
 try rw [← hgy]
 try rw [← hgx]
 rw [← hgy] at HY Hqx;rw [← hgx] at HX Hqx;clear hgx hgy;have k0 := HX.out.cell (k := 0) (v := .int .i64 8) rfl;have k1 := HX.out.cell (k := 1) (v := .int .i64 (ca : Int)) rfl;have k10 := HY.out.cell (k := 1) (v := .int .i64 4) rfl;go_wp2_with (go_at_call 127; refine (xvy HG.out HRR.out HTT.out (j := ca) (by have := hca.out.1; have := hca.out.2; omega) (Hig.out ca hca.out.1) 4 (by decide) (!(decide (xwc ts ca = 1) || decide (xwc ts ca = 2))) (bOwn4 (kn_of HG.out hca.out.2)) wa q (l) B0.out H0.out (by have h1 := HL.out; rw [HXe.out] at h1; simp only [List.length_append, List.length_cons] at h1 ⊢; omega)).mono ?_);rintro e w1 ⟨rfl, hh, kk⟩;have H1 : Hid (Bd_w w1 w0.heap.size q (some ⟨g, og, none⟩) N D (l ++ xj7 (!(decide (xwc ts ca = 1) || decide (xwc ts ca = 2))) (ndX ts ca))) := hh;have K1 := hid (K0.out.trans kk);have S1 := hid (Nat.le_trans S0.out kk.size);have B1 := hid (B0.out.trans (kk.low HQ.out S0.out));replace HX := hid (kk.row HX.out Hqx.out.1 (by decide));replace HY := hid (kk.row HY.out Hqx.out.2 (by decide));clear hh kk H0 K0 S0 B0 k0 k1 k10;have k3 := HX.out.cell (k := 3) (v := .int .i64 n') rfl;obtain ⟨Z, hZ⟩ : ∃ Z : ByteArray, strOf (zT n') = Z := ⟨_, rfl⟩;have hzl : (zT n').length ≤ 4 := ywx hn64;have hZs : Z.size ≤ 4 := by rw [← hZ, xqh]; exact hzl
 have hbZ : Hid (bytesOf ((⟨#[94]⟩ : ByteArray) ++ Z) = 94 :: zT n') := by
  show _ = _;rw [← hZ, show (⟨#[94]⟩ : ByteArray) = strOf [94] from rfl, xjh];exact xqk (xqm (by decide) (zT_bytes n'))
 have Hsz : Hid (((⟨#[94]⟩ : ByteArray) ++ Z).size = (zT n').length + 1) := by show _ = _; rw [ByteArray.size_append, ← hZ, xqh]; show 1 + _ = _; omega
 have HZ := hid hZ;have Hn64 := hid hn64;clear hZ hzl hn64;go_wp2_with (go_at_call 99; refine (itoaT_c n' (by have := Hn64.out; omega) w1 (HPP.out.below B1.out)).mono ?_);rintro e w2 ⟨rfl, bn⟩;rw [HZ.out];have H2 := hid (H1.out.below bn);have K2 := hid (K1.out.trans (KnW.below bn));have S2 := hid (Nat.le_trans S1.out bn.size);have B2 := hid (B1.out.trans (bn.mono S1.out));replace HX := hid (RowA.below HX.out bn);replace HY := hid (RowA.below HY.out bn);clear bn H1 K1 S1 B1 k3;go_wp2_with (first | (go_at_call 126; refine (xzy H2.out ((⟨#[94]⟩ : ByteArray) ++ Z) (by have h1 := HL.out; rw [HXe.out] at h1; have h2 := Hsz.out; simp only [List.length_append, List.length_cons] at h1 ⊢; omega) S2.out).mono ?_));rintro e w3 ⟨rfl, hh, kk⟩;have H3 : Hid (Bd_w w3 w0.heap.size q (some ⟨g, og, none⟩) N D (l ++ xj7 (!(decide (xwc ts ca = 1) || decide (xwc ts ca = 2))) (ndX ts ca) ++ (94 :: zT n'))) := by rw [hbZ.out] at hh; exact hh
 have K3 := hid (K2.out.trans kk);have S3 := hid (Nat.le_trans S2.out kk.size);have B3 := hid (B2.out.trans (kk.low HQ.out S2.out));replace HX := hid (kk.row HX.out Hqx.out.1 (by decide));replace HY := hid (kk.row HY.out Hqx.out.2 (by decide));clear hh kk H2 K2 S2 B2 ;go_wp2
 go_end0
 refine ⟨rfl, ?_, K3.out⟩;rw [HXe.out, ← List.append_assoc];exact H3.out
set_option maxRecDepth 100000 in
theorem wNode_two3 {w0 : World} {C : Option Addr} {N D : Nat} {ts : List Nd} (hg : xq5 ts = true) (hm : Mild ts) (HR : TreR w0 C N D ts) (HT : BTab w0) (HP : P10 w0) {i : Nat} (hi : i < ts.length) (ih : ∀ j, j < i → xzr w0 C N D ts j) {x : Nd} (hx : ts[i]? = some x) (hk : x.k = 3) : xzr w0 C N D ts i := by
 intro w q l hb h hl;obtain ⟨hf, h1c, h2c⟩ := xzg hg hx;obtain ⟨hq, hqs, c0⟩ := h.low;have hsz := hb.size;have HTw := HT.below hb;have hmx := hm.at hx;obtain ⟨g, og, rfl, hgl, hin⟩ := (HR.below hb).at hx;have hNl := HR.len;have hiN : i < N := by omega
 obtain ⟨hND, hDm⟩ : N ≤ D ∧ D ≤ maxLen := ⟨HR.2.1, HR.2.2.1⟩;have eq1 : maxLen = 9223372036854775807 := rfl;obtain ⟨k, a, b, n', t, u, p'⟩ := x;dsimp only at hk h1c h2c hmx hin;subst hk;obtain ⟨ca, cb, ea, eb, hca, hcb⟩ := h2c (by decide);subst ea eb;have hXe : ndX ts i = xj7 (false) (ndX ts ca) ++ ([32, 43, 32] ++ xj7 (xje (xwc ts cb)) (ndX ts cb)) := ndX_two hx (show xq8 3 = true by decide) rfl hca rfl hcb;have hca2 : ca < i ∧ ca < ts.length := ⟨hca, by omega⟩;have hcb2 : cb < i ∧ cb < ts.length := ⟨hcb, by omega⟩;have HXe := hid hXe;have hca := hid hca2;have hcb := hid hcb2;clear hXe hca2 hcb2;have HI1 : Hid (InV w g (og + i * 7) (ndC 3 (ca : Int) (cb : Int) n' t u p')) := hin;have HM1 : Hid (xq7 Tryz.prog 51 (ndC 3 (ca : Int) (cb : Int) n' t u p').size) := xjx _ _ _ _ _ _ _;have HU1 : Hid (xq7 Tryz.prog 51 (ndC 3 (ca : Int) (cb : Int) n' t u p').size ∧ zN.size = (ndC 3 (ca : Int) (cb : Int) n' t u p').size ∧ ∀ v ∈ ndC 3 (ca : Int) (cb : Int) n' t u p', v.oneCell' = true) := xz0 ⟨3, (ca : Int), (cb : Int), n', t, u, p'⟩ zNd;have b1 := xqc w (.cells (ndC 3 (ca : Int) (cb : Int) n' t u p') 51);have HI2 : Hid (InV (w.alloc (.cells (ndC 3 (ca : Int) (cb : Int) n' t u p') 51)) 1 12 (bdC 1 1 2 (strOf [32, 43, 32]))) := (tabB 3 1 1 2 [32, 43, 32] (by decide) (by decide) HTw).below HTw.lt b1;have HM2 : Hid (xq7 Tryz.prog 153 (bdC 1 1 2 (strOf [32, 43, 32])).size) := yj3 _ _ _ _;have HU2 : Hid (xq7 Tryz.prog 153 (bdC 1 1 2 (strOf [32, 43, 32])).size ∧ zBd.size = (bdC 1 1 2 (strOf [32, 43, 32])).size ∧ ∀ v ∈ bdC 1 1 2 (strOf [32, 43, 32]), v.oneCell' = true) := yvh _ _ _ _
 have b2 := xqc (w.alloc (.cells (ndC 3 (ca : Int) (cb : Int) n' t u p') 51)) (.cells (bdC 1 1 2 (strOf [32, 43, 32])) 153);have hX1 := xqd w 51 (ndC 3 (ca : Int) (cb : Int) n' t u p');have k0 := hX1.cell (k := 0) (v := .int .i64 3) rfl;have HX := hid (hX1.below b2);have hY := xqd (w.alloc (.cells (ndC 3 (ca : Int) (cb : Int) n' t u p') 51)) 153 (bdC 1 1 2 (strOf [32, 43, 32]));have k0' : ((w.alloc (.cells (ndC 3 (ca : Int) (cb : Int) n' t u p') 51)).alloc (.cells (bdC 1 1 2 (strOf [32, 43, 32])) 153)).cell? ⟨w.heap.size, 0, none⟩ = some (.int .i64 3) := HX.out.cell rfl;have bw := xqa b1 b2;have H0 := hid (h.below bw);have K0 := hid (KnW.below (B := w0.heap.size) (q := q) bw);have B0 := hid (hb.trans (bw.mono hsz));have S0 := hid (Nat.le_trans hsz bw.size);have HL := hid hl;have HQ := hid hq;have Hqx : Hid (w.heap.size ≠ q ∧ w.heap.size + 1 ≠ q) := by constructor <;> omega
 have HY : Hid (RowA ((w.alloc (.cells (ndC 3 (ca : Int) (cb : Int) n' t u p') 51)).alloc (.cells (bdC 1 1 2 (strOf [32, 43, 32])) 153)) (w.heap.size + 1) 153 (bdC 1 1 2 (strOf [32, 43, 32]))) := by
  rw [World.size_alloc] at hY;exact hY
 have Hig := hid ih;have HG := hid hg;have HRR := hid HR;have HTT := hid HT;have HPP := hid HP;clear ih h hb hl hq hqs hsz hin hX1 hY bw b1 b2 hgl HTw hg HR HT HP hx hf h1c h2c hNl;go_enter Tryz.func96, Tryz.ntmps96
 go_upto_region 2 with (first | (refine xqf (by rfl) _ _ (by rfl) _ _ (by rfl) _ (by assumption) (by assumption) ?_) | (refine xqg (by rfl) _ _ _ (by rfl) _ _ _ (by rfl) (by rfl) (by assumption) ?_))
 clear k0 k0' HI1 HI2 HM1 HM2 HU1 HU2 c0;generalize (w.alloc (.cells (ndC 3 (ca : Int) (cb : Int) n' t u p') 51)).alloc (.cells (bdC 1 1 2 (strOf [32, 43, 32])) 153) = wa at *;obtain ⟨gx, hgx⟩ : ∃ y, y = w.heap.size := ⟨_, rfl⟩;obtain ⟨gy, hgy⟩ : ∃ y, y = w.heap.size + 1 := ⟨_, rfl⟩
 try rw [← hgy]
 try rw [← hgx]
 rw [← hgy] at HY Hqx;rw [← hgx] at HX Hqx;clear hgx hgy;have k0 := HX.out.cell (k := 0) (v := .int .i64 3) rfl;have k1 := HX.out.cell (k := 1) (v := .int .i64 (ca : Int)) rfl;have k10 := HY.out.cell (k := 1) (v := .int .i64 1) rfl;go_wp2_with (go_at_call 127; refine (xvy HG.out HRR.out HTT.out (j := ca) (by have := hca.out.1; have := hca.out.2; omega) (Hig.out ca hca.out.1) 1 (by decide) (false) (bOwn1 (kn_of HG.out hca.out.2)) wa q (l) B0.out H0.out (by have h1 := HL.out; rw [HXe.out] at h1; simp only [List.length_append] at h1 ⊢; omega)).mono ?_);rintro e w1 ⟨rfl, hh, kk⟩;have H1 : Hid (Bd_w w1 w0.heap.size q (some ⟨g, og, none⟩) N D (l ++ xj7 (false) (ndX ts ca))) := hh;have K1 := hid (K0.out.trans kk);have S1 := hid (Nat.le_trans S0.out kk.size);have B1 := hid (B0.out.trans (kk.low HQ.out S0.out));replace HX := hid (kk.row HX.out Hqx.out.1 (by decide));replace HY := hid (kk.row HY.out Hqx.out.2 (by decide));clear hh kk H0 K0 S0 B0 k0 k1 k10;have k12 := HY.out.cell (k := 3) (v := .string (strOf [32, 43, 32])) rfl;go_wp2_with (first | (go_at_call 126; refine (xzy H1.out (strOf [32, 43, 32]) (by have h1 := HL.out; rw [HXe.out] at h1; rw [xqh]; simp only [List.length_append] at h1 ⊢; omega) S1.out).mono ?_));rintro e w2 ⟨rfl, hh, kk⟩;have H2 : Hid (Bd_w w2 w0.heap.size q (some ⟨g, og, none⟩) N D (l ++ xj7 (false) (ndX ts ca) ++ [32, 43, 32])) := by rw [xqk (by unfold Bytes; decide)] at hh; exact hh
 have K2 := hid (K1.out.trans kk);have S2 := hid (Nat.le_trans S1.out kk.size);have B2 := hid (B1.out.trans (kk.low HQ.out S1.out));replace HX := hid (kk.row HX.out Hqx.out.1 (by decide));replace HY := hid (kk.row HY.out Hqx.out.2 (by decide));clear hh kk H1 K1 S1 B1 k12;have k2 := HX.out.cell (k := 2) (v := .int .i64 (cb : Int)) rfl;have k11 := HY.out.cell (k := 2) (v := .int .i64 2) rfl;go_wp2_with (go_at_call 127; refine (xvy HG.out HRR.out HTT.out (j := cb) (by have := hcb.out.1; have := hcb.out.2; omega) (Hig.out cb hcb.out.1) 2 (by decide) (xje (xwc ts cb)) (bOwn2 (kn_of HG.out hcb.out.2)) w2 q (l ++ xj7 (false) (ndX ts ca) ++ [32, 43, 32]) B2.out H2.out (by have h1 := HL.out; rw [HXe.out] at h1; simp only [List.length_append] at h1 ⊢; omega)).mono ?_);rintro e w3 ⟨rfl, hh, kk⟩;have H3 : Hid (Bd_w w3 w0.heap.size q (some ⟨g, og, none⟩) N D (l ++ xj7 (false) (ndX ts ca) ++ [32, 43, 32] ++ xj7 (xje (xwc ts cb)) (ndX ts cb))) := hh;have K3 := hid (K2.out.trans kk);have S3 := hid (Nat.le_trans S2.out kk.size);have B3 := hid (B2.out.trans (kk.low HQ.out S2.out));replace HX := hid (kk.row HX.out Hqx.out.1 (by decide));replace HY := hid (kk.row HY.out Hqx.out.2 (by decide));clear hh kk H2 K2 S2 B2 k2 k11;go_wp2
 go_end0
 refine ⟨rfl, ?_, K3.out⟩;rw [HXe.out, ← List.append_assoc, ← List.append_assoc];exact H3.out
set_option maxRecDepth 100000 in
theorem wNode_two4 {w0 : World} {C : Option Addr} {N D : Nat} {ts : List Nd} (hg : xq5 ts = true) (hm : Mild ts) (HR : TreR w0 C N D ts) (HT : BTab w0) (HP : P10 w0) {i : Nat} (hi : i < ts.length) (ih : ∀ j, j < i → xzr w0 C N D ts j) {x : Nd} (hx : ts[i]? = some x) (hk : x.k = 4) : xzr w0 C N D ts i := by
 intro w q l hb h hl;obtain ⟨hf, h1c, h2c⟩ := xzg hg hx;obtain ⟨hq, hqs, c0⟩ := h.low;have hsz := hb.size;have HTw := HT.below hb;have hmx := hm.at hx;obtain ⟨g, og, rfl, hgl, hin⟩ := (HR.below hb).at hx;have hNl := HR.len;have hiN : i < N := by omega
 obtain ⟨hND, hDm⟩ : N ≤ D ∧ D ≤ maxLen := ⟨HR.2.1, HR.2.2.1⟩;have eq1 : maxLen = 9223372036854775807 := rfl;obtain ⟨k, a, b, n', t, u, p'⟩ := x;dsimp only at hk h1c h2c hmx hin;subst hk;obtain ⟨ca, cb, ea, eb, hca, hcb⟩ := h2c (by decide);subst ea eb;have hXe : ndX ts i = xj7 (false) (ndX ts ca) ++ ([32, 45, 32] ++ xj7 (xje (xwc ts cb)) (ndX ts cb)) := ndX_two hx (show xq8 4 = true by decide) rfl hca rfl hcb;have hca2 : ca < i ∧ ca < ts.length := ⟨hca, by omega⟩;have hcb2 : cb < i ∧ cb < ts.length := ⟨hcb, by omega⟩;have HXe := hid hXe;have hca := hid hca2;have hcb := hid hcb2;clear hXe hca2 hcb2;have HI1 : Hid (InV w g (og + i * 7) (ndC 4 (ca : Int) (cb : Int) n' t u p')) := hin;have HM1 : Hid (xq7 Tryz.prog 51 (ndC 4 (ca : Int) (cb : Int) n' t u p').size) := xjx _ _ _ _ _ _ _;have HU1 : Hid (xq7 Tryz.prog 51 (ndC 4 (ca : Int) (cb : Int) n' t u p').size ∧ zN.size = (ndC 4 (ca : Int) (cb : Int) n' t u p').size ∧ ∀ v ∈ ndC 4 (ca : Int) (cb : Int) n' t u p', v.oneCell' = true) := xz0 ⟨4, (ca : Int), (cb : Int), n', t, u, p'⟩ zNd;have b1 := xqc w (.cells (ndC 4 (ca : Int) (cb : Int) n' t u p') 51);have HI2 : Hid (InV (w.alloc (.cells (ndC 4 (ca : Int) (cb : Int) n' t u p') 51)) 1 16 (bdC 1 1 2 (strOf [32, 45, 32]))) := (tabB 4 1 1 2 [32, 45, 32] (by decide) (by decide) HTw).below HTw.lt b1;have HM2 : Hid (xq7 Tryz.prog 153 (bdC 1 1 2 (strOf [32, 45, 32])).size) := yj3 _ _ _ _;have HU2 : Hid (xq7 Tryz.prog 153 (bdC 1 1 2 (strOf [32, 45, 32])).size ∧ zBd.size = (bdC 1 1 2 (strOf [32, 45, 32])).size ∧ ∀ v ∈ bdC 1 1 2 (strOf [32, 45, 32]), v.oneCell' = true) := yvh _ _ _ _
 have b2 := xqc (w.alloc (.cells (ndC 4 (ca : Int) (cb : Int) n' t u p') 51)) (.cells (bdC 1 1 2 (strOf [32, 45, 32])) 153);have hX1 := xqd w 51 (ndC 4 (ca : Int) (cb : Int) n' t u p');have k0 := hX1.cell (k := 0) (v := .int .i64 4) rfl;have HX := hid (hX1.below b2);have hY := xqd (w.alloc (.cells (ndC 4 (ca : Int) (cb : Int) n' t u p') 51)) 153 (bdC 1 1 2 (strOf [32, 45, 32]));have k0' : ((w.alloc (.cells (ndC 4 (ca : Int) (cb : Int) n' t u p') 51)).alloc (.cells (bdC 1 1 2 (strOf [32, 45, 32])) 153)).cell? ⟨w.heap.size, 0, none⟩ = some (.int .i64 4) := HX.out.cell rfl;have bw := xqa b1 b2;have H0 := hid (h.below bw);have K0 := hid (KnW.below (B := w0.heap.size) (q := q) bw);have B0 := hid (hb.trans (bw.mono hsz));have S0 := hid (Nat.le_trans hsz bw.size);have HL := hid hl;have HQ := hid hq;have Hqx : Hid (w.heap.size ≠ q ∧ w.heap.size + 1 ≠ q) := by constructor <;> omega
 have HY : Hid (RowA ((w.alloc (.cells (ndC 4 (ca : Int) (cb : Int) n' t u p') 51)).alloc (.cells (bdC 1 1 2 (strOf [32, 45, 32])) 153)) (w.heap.size + 1) 153 (bdC 1 1 2 (strOf [32, 45, 32]))) := by
  rw [World.size_alloc] at hY;exact hY
 have Hig := hid ih;have HG := hid hg;have HRR := hid HR;have HTT := hid HT;have HPP := hid HP;clear ih h hb hl hq hqs hsz hin hX1 hY bw b1 b2 hgl HTw hg HR HT HP hx hf h1c h2c hNl;go_enter Tryz.func96, Tryz.ntmps96
 go_upto_region 2 with (first | (refine xqf (by rfl) _ _ (by rfl) _ _ (by rfl) _ (by assumption) (by assumption) ?_) | (refine xqg (by rfl) _ _ _ (by rfl) _ _ _ (by rfl) (by rfl) (by assumption) ?_))
 clear k0 k0' HI1 HI2 HM1 HM2 HU1 HU2 c0;generalize (w.alloc (.cells (ndC 4 (ca : Int) (cb : Int) n' t u p') 51)).alloc (.cells (bdC 1 1 2 (strOf [32, 45, 32])) 153) = wa at *;obtain ⟨gx, hgx⟩ : ∃ y, y = w.heap.size := ⟨_, rfl⟩;obtain ⟨gy, hgy⟩ : ∃ y, y = w.heap.size + 1 := ⟨_, rfl⟩
 try rw [← hgy]
 try rw [← hgx]
 rw [← hgy] at HY Hqx;rw [← hgx] at HX Hqx;clear hgx hgy;have k0 := HX.out.cell (k := 0) (v := .int .i64 4) rfl;have k1 := HX.out.cell (k := 1) (v := .int .i64 (ca : Int)) rfl;have k10 := HY.out.cell (k := 1) (v := .int .i64 1) rfl;go_wp2_with (go_at_call 127; refine (xvy HG.out HRR.out HTT.out (j := ca) (by have := hca.out.1; have := hca.out.2; omega) (Hig.out ca hca.out.1) 1 (by decide) (false) (bOwn1 (kn_of HG.out hca.out.2)) wa q (l) B0.out H0.out (by have h1 := HL.out; rw [HXe.out] at h1; simp only [List.length_append] at h1 ⊢; omega)).mono ?_);rintro e w1 ⟨rfl, hh, kk⟩;have H1 : Hid (Bd_w w1 w0.heap.size q (some ⟨g, og, none⟩) N D (l ++ xj7 (false) (ndX ts ca))) := hh;have K1 := hid (K0.out.trans kk);have S1 := hid (Nat.le_trans S0.out kk.size);have B1 := hid (B0.out.trans (kk.low HQ.out S0.out));replace HX := hid (kk.row HX.out Hqx.out.1 (by decide));replace HY := hid (kk.row HY.out Hqx.out.2 (by decide));clear hh kk H0 K0 S0 B0 k0 k1 k10;have k12 := HY.out.cell (k := 3) (v := .string (strOf [32, 45, 32])) rfl;go_wp2_with (first | (go_at_call 126; refine (xzy H1.out (strOf [32, 45, 32]) (by have h1 := HL.out; rw [HXe.out] at h1; rw [xqh]; simp only [List.length_append] at h1 ⊢; omega) S1.out).mono ?_));rintro e w2 ⟨rfl, hh, kk⟩;have H2 : Hid (Bd_w w2 w0.heap.size q (some ⟨g, og, none⟩) N D (l ++ xj7 (false) (ndX ts ca) ++ [32, 45, 32])) := by rw [xqk (by unfold Bytes; decide)] at hh; exact hh
 have K2 := hid (K1.out.trans kk);have S2 := hid (Nat.le_trans S1.out kk.size);have B2 := hid (B1.out.trans (kk.low HQ.out S1.out));replace HX := hid (kk.row HX.out Hqx.out.1 (by decide));replace HY := hid (kk.row HY.out Hqx.out.2 (by decide));clear hh kk H1 K1 S1 B1 k12;have k2 := HX.out.cell (k := 2) (v := .int .i64 (cb : Int)) rfl;have k11 := HY.out.cell (k := 2) (v := .int .i64 2) rfl;go_wp2_with (go_at_call 127; refine (xvy HG.out HRR.out HTT.out (j := cb) (by have := hcb.out.1; have := hcb.out.2; omega) (Hig.out cb hcb.out.1) 2 (by decide) (xje (xwc ts cb)) (bOwn2 (kn_of HG.out hcb.out.2)) w2 q (l ++ xj7 (false) (ndX ts ca) ++ [32, 45, 32]) B2.out H2.out (by have h1 := HL.out; rw [HXe.out] at h1; simp only [List.length_append] at h1 ⊢; omega)).mono ?_);rintro e w3 ⟨rfl, hh, kk⟩;have H3 : Hid (Bd_w w3 w0.heap.size q (some ⟨g, og, none⟩) N D (l ++ xj7 (false) (ndX ts ca) ++ [32, 45, 32] ++ xj7 (xje (xwc ts cb)) (ndX ts cb))) := hh;have K3 := hid (K2.out.trans kk);have S3 := hid (Nat.le_trans S2.out kk.size);have B3 := hid (B2.out.trans (kk.low HQ.out S2.out));replace HX := hid (kk.row HX.out Hqx.out.1 (by decide));replace HY := hid (kk.row HY.out Hqx.out.2 (by decide));clear hh kk H2 K2 S2 B2 k2 k11;go_wp2
 go_end0
 refine ⟨rfl, ?_, K3.out⟩;rw [HXe.out, ← List.append_assoc, ← List.append_assoc];exact H3.out
set_option maxRecDepth 100000 in
theorem wNode_two5 {w0 : World} {C : Option Addr} {N D : Nat} {ts : List Nd} (hg : xq5 ts = true) (hm : Mild ts) (HR : TreR w0 C N D ts) (HT : BTab w0) (HP : P10 w0) {i : Nat} (hi : i < ts.length) (ih : ∀ j, j < i → xzr w0 C N D ts j) {x : Nd} (hx : ts[i]? = some x) (hk : x.k = 5) : xzr w0 C N D ts i := by
 intro w q l hb h hl;obtain ⟨hf, h1c, h2c⟩ := xzg hg hx;obtain ⟨hq, hqs, c0⟩ := h.low;have hsz := hb.size;have HTw := HT.below hb;have hmx := hm.at hx;obtain ⟨g, og, rfl, hgl, hin⟩ := (HR.below hb).at hx;have hNl := HR.len;have hiN : i < N := by omega
 obtain ⟨hND, hDm⟩ : N ≤ D ∧ D ≤ maxLen := ⟨HR.2.1, HR.2.2.1⟩;have eq1 : maxLen = 9223372036854775807 := rfl;obtain ⟨k, a, b, n', t, u, p'⟩ := x;dsimp only at hk h1c h2c hmx hin;subst hk;obtain ⟨ca, cb, ea, eb, hca, hcb⟩ := h2c (by decide);subst ea eb;have hXe : ndX ts i = xj7 (xje (xwc ts ca)) (ndX ts ca) ++ ([42] ++ xj7 (xq8 (xwc ts cb)) (ndX ts cb)) := ndX_two hx (show xq8 5 = true by decide) rfl hca rfl hcb;have hca2 : ca < i ∧ ca < ts.length := ⟨hca, by omega⟩;have hcb2 : cb < i ∧ cb < ts.length := ⟨hcb, by omega⟩;have HXe := hid hXe;have hca := hid hca2;have hcb := hid hcb2;clear hXe hca2 hcb2;have HI1 : Hid (InV w g (og + i * 7) (ndC 5 (ca : Int) (cb : Int) n' t u p')) := hin;have HM1 : Hid (xq7 Tryz.prog 51 (ndC 5 (ca : Int) (cb : Int) n' t u p').size) := xjx _ _ _ _ _ _ _;have HU1 : Hid (xq7 Tryz.prog 51 (ndC 5 (ca : Int) (cb : Int) n' t u p').size ∧ zN.size = (ndC 5 (ca : Int) (cb : Int) n' t u p').size ∧ ∀ v ∈ ndC 5 (ca : Int) (cb : Int) n' t u p', v.oneCell' = true) := xz0 ⟨5, (ca : Int), (cb : Int), n', t, u, p'⟩ zNd;have b1 := xqc w (.cells (ndC 5 (ca : Int) (cb : Int) n' t u p') 51);have HI2 : Hid (InV (w.alloc (.cells (ndC 5 (ca : Int) (cb : Int) n' t u p') 51)) 1 20 (bdC 2 2 3 (strOf [42]))) := (tabB 5 2 2 3 [42] (by decide) (by decide) HTw).below HTw.lt b1;have HM2 : Hid (xq7 Tryz.prog 153 (bdC 2 2 3 (strOf [42])).size) := yj3 _ _ _ _;have HU2 : Hid (xq7 Tryz.prog 153 (bdC 2 2 3 (strOf [42])).size ∧ zBd.size = (bdC 2 2 3 (strOf [42])).size ∧ ∀ v ∈ bdC 2 2 3 (strOf [42]), v.oneCell' = true) := yvh _ _ _ _
 have b2 := xqc (w.alloc (.cells (ndC 5 (ca : Int) (cb : Int) n' t u p') 51)) (.cells (bdC 2 2 3 (strOf [42])) 153);have hX1 := xqd w 51 (ndC 5 (ca : Int) (cb : Int) n' t u p');have k0 := hX1.cell (k := 0) (v := .int .i64 5) rfl;have HX := hid (hX1.below b2);have hY := xqd (w.alloc (.cells (ndC 5 (ca : Int) (cb : Int) n' t u p') 51)) 153 (bdC 2 2 3 (strOf [42]));have k0' : ((w.alloc (.cells (ndC 5 (ca : Int) (cb : Int) n' t u p') 51)).alloc (.cells (bdC 2 2 3 (strOf [42])) 153)).cell? ⟨w.heap.size, 0, none⟩ = some (.int .i64 5) := HX.out.cell rfl;have bw := xqa b1 b2;have H0 := hid (h.below bw);have K0 := hid (KnW.below (B := w0.heap.size) (q := q) bw);have B0 := hid (hb.trans (bw.mono hsz));have S0 := hid (Nat.le_trans hsz bw.size);have HL := hid hl;have HQ := hid hq;have Hqx : Hid (w.heap.size ≠ q ∧ w.heap.size + 1 ≠ q) := by constructor <;> omega
 have HY : Hid (RowA ((w.alloc (.cells (ndC 5 (ca : Int) (cb : Int) n' t u p') 51)).alloc (.cells (bdC 2 2 3 (strOf [42])) 153)) (w.heap.size + 1) 153 (bdC 2 2 3 (strOf [42]))) := by
  rw [World.size_alloc] at hY;exact hY
 have Hig := hid ih;have HG := hid hg;have HRR := hid HR;have HTT := hid HT;have HPP := hid HP;clear ih h hb hl hq hqs hsz hin hX1 hY bw b1 b2 hgl HTw hg HR HT HP hx hf h1c h2c hNl;go_enter Tryz.func96, Tryz.ntmps96
 go_upto_region 2 with (first | (refine xqf (by rfl) _ _ (by rfl) _ _ (by rfl) _ (by assumption) (by assumption) ?_) | (refine xqg (by rfl) _ _ _ (by rfl) _ _ _ (by rfl) (by rfl) (by assumption) ?_))
 clear k0 k0' HI1 HI2 HM1 HM2 HU1 HU2 c0;generalize (w.alloc (.cells (ndC 5 (ca : Int) (cb : Int) n' t u p') 51)).alloc (.cells (bdC 2 2 3 (strOf [42])) 153) = wa at *;obtain ⟨gx, hgx⟩ : ∃ y, y = w.heap.size := ⟨_, rfl⟩;obtain ⟨gy, hgy⟩ : ∃ y, y = w.heap.size + 1 := ⟨_, rfl⟩
 try rw [← hgy]
 try rw [← hgx]
 rw [← hgy] at HY Hqx;rw [← hgx] at HX Hqx;clear hgx hgy;have k0 := HX.out.cell (k := 0) (v := .int .i64 5) rfl;have k1 := HX.out.cell (k := 1) (v := .int .i64 (ca : Int)) rfl;have k10 := HY.out.cell (k := 1) (v := .int .i64 2) rfl;go_wp2_with (go_at_call 127; refine (xvy HG.out HRR.out HTT.out (j := ca) (by have := hca.out.1; have := hca.out.2; omega) (Hig.out ca hca.out.1) 2 (by decide) (xje (xwc ts ca)) (bOwn2 (kn_of HG.out hca.out.2)) wa q (l) B0.out H0.out (by have h1 := HL.out; rw [HXe.out] at h1; simp only [List.length_append] at h1 ⊢; omega)).mono ?_);rintro e w1 ⟨rfl, hh, kk⟩;have H1 : Hid (Bd_w w1 w0.heap.size q (some ⟨g, og, none⟩) N D (l ++ xj7 (xje (xwc ts ca)) (ndX ts ca))) := hh;have K1 := hid (K0.out.trans kk);have S1 := hid (Nat.le_trans S0.out kk.size);have B1 := hid (B0.out.trans (kk.low HQ.out S0.out));replace HX := hid (kk.row HX.out Hqx.out.1 (by decide));replace HY := hid (kk.row HY.out Hqx.out.2 (by decide));clear hh kk H0 K0 S0 B0 k0 k1 k10;have k12 := HY.out.cell (k := 3) (v := .string (strOf [42])) rfl;go_wp2_with (first | (go_at_call 126; refine (xzy H1.out (strOf [42]) (by have h1 := HL.out; rw [HXe.out] at h1; rw [xqh]; simp only [List.length_append] at h1 ⊢; omega) S1.out).mono ?_));rintro e w2 ⟨rfl, hh, kk⟩;have H2 : Hid (Bd_w w2 w0.heap.size q (some ⟨g, og, none⟩) N D (l ++ xj7 (xje (xwc ts ca)) (ndX ts ca) ++ [42])) := by rw [xqk (by unfold Bytes; decide)] at hh; exact hh
 have K2 := hid (K1.out.trans kk);have S2 := hid (Nat.le_trans S1.out kk.size);have B2 := hid (B1.out.trans (kk.low HQ.out S1.out));replace HX := hid (kk.row HX.out Hqx.out.1 (by decide));replace HY := hid (kk.row HY.out Hqx.out.2 (by decide));clear hh kk H1 K1 S1 B1 k12;have k2 := HX.out.cell (k := 2) (v := .int .i64 (cb : Int)) rfl;have k11 := HY.out.cell (k := 2) (v := .int .i64 3) rfl;go_wp2_with (go_at_call 127; refine (xvy HG.out HRR.out HTT.out (j := cb) (by have := hcb.out.1; have := hcb.out.2; omega) (Hig.out cb hcb.out.1) 3 (by decide) (xq8 (xwc ts cb)) (bOwn3 (kn_of HG.out hcb.out.2)) w2 q (l ++ xj7 (xje (xwc ts ca)) (ndX ts ca) ++ [42]) B2.out H2.out (by have h1 := HL.out; rw [HXe.out] at h1; simp only [List.length_append] at h1 ⊢; omega)).mono ?_);rintro e w3 ⟨rfl, hh, kk⟩;have H3 : Hid (Bd_w w3 w0.heap.size q (some ⟨g, og, none⟩) N D (l ++ xj7 (xje (xwc ts ca)) (ndX ts ca) ++ [42] ++ xj7 (xq8 (xwc ts cb)) (ndX ts cb))) := hh;have K3 := hid (K2.out.trans kk);have S3 := hid (Nat.le_trans S2.out kk.size);have B3 := hid (B2.out.trans (kk.low HQ.out S2.out));replace HX := hid (kk.row HX.out Hqx.out.1 (by decide));replace HY := hid (kk.row HY.out Hqx.out.2 (by decide));clear hh kk H2 K2 S2 B2 k2 k11;go_wp2
 go_end0
 refine ⟨rfl, ?_, K3.out⟩;rw [HXe.out, ← List.append_assoc, ← List.append_assoc];exact H3.out
set_option maxRecDepth 100000 in
theorem wNode_two6 {w0 : World} {C : Option Addr} {N D : Nat} {ts : List Nd} (hg : xq5 ts = true) (hm : Mild ts) (HR : TreR w0 C N D ts) (HT : BTab w0) (HP : P10 w0) {i : Nat} (hi : i < ts.length) (ih : ∀ j, j < i → xzr w0 C N D ts j) {x : Nd} (hx : ts[i]? = some x) (hk : x.k = 6) : xzr w0 C N D ts i := by
 intro w q l hb h hl;obtain ⟨hf, h1c, h2c⟩ := xzg hg hx;obtain ⟨hq, hqs, c0⟩ := h.low;have hsz := hb.size;have HTw := HT.below hb;have hmx := hm.at hx;obtain ⟨g, og, rfl, hgl, hin⟩ := (HR.below hb).at hx;have hNl := HR.len;have hiN : i < N := by omega
 obtain ⟨hND, hDm⟩ : N ≤ D ∧ D ≤ maxLen := ⟨HR.2.1, HR.2.2.1⟩;have eq1 : maxLen = 9223372036854775807 := rfl;obtain ⟨k, a, b, n', t, u, p'⟩ := x;dsimp only at hk h1c h2c hmx hin;subst hk;obtain ⟨ca, cb, ea, eb, hca, hcb⟩ := h2c (by decide);subst ea eb;have hXe : ndX ts i = xj7 (xje (xwc ts ca)) (ndX ts ca) ++ ([47] ++ xj7 (xq8 (xwc ts cb)) (ndX ts cb)) := ndX_two hx (show xq8 6 = true by decide) rfl hca rfl hcb;have hca2 : ca < i ∧ ca < ts.length := ⟨hca, by omega⟩;have hcb2 : cb < i ∧ cb < ts.length := ⟨hcb, by omega⟩;have HXe := hid hXe;have hca := hid hca2;have hcb := hid hcb2;clear hXe hca2 hcb2;have HI1 : Hid (InV w g (og + i * 7) (ndC 6 (ca : Int) (cb : Int) n' t u p')) := hin;have HM1 : Hid (xq7 Tryz.prog 51 (ndC 6 (ca : Int) (cb : Int) n' t u p').size) := xjx _ _ _ _ _ _ _;have HU1 : Hid (xq7 Tryz.prog 51 (ndC 6 (ca : Int) (cb : Int) n' t u p').size ∧ zN.size = (ndC 6 (ca : Int) (cb : Int) n' t u p').size ∧ ∀ v ∈ ndC 6 (ca : Int) (cb : Int) n' t u p', v.oneCell' = true) := xz0 ⟨6, (ca : Int), (cb : Int), n', t, u, p'⟩ zNd;have b1 := xqc w (.cells (ndC 6 (ca : Int) (cb : Int) n' t u p') 51);have HI2 : Hid (InV (w.alloc (.cells (ndC 6 (ca : Int) (cb : Int) n' t u p') 51)) 1 24 (bdC 2 2 3 (strOf [47]))) := (tabB 6 2 2 3 [47] (by decide) (by decide) HTw).below HTw.lt b1;have HM2 : Hid (xq7 Tryz.prog 153 (bdC 2 2 3 (strOf [47])).size) := yj3 _ _ _ _;have HU2 : Hid (xq7 Tryz.prog 153 (bdC 2 2 3 (strOf [47])).size ∧ zBd.size = (bdC 2 2 3 (strOf [47])).size ∧ ∀ v ∈ bdC 2 2 3 (strOf [47]), v.oneCell' = true) := yvh _ _ _ _
 have b2 := xqc (w.alloc (.cells (ndC 6 (ca : Int) (cb : Int) n' t u p') 51)) (.cells (bdC 2 2 3 (strOf [47])) 153);have hX1 := xqd w 51 (ndC 6 (ca : Int) (cb : Int) n' t u p');have k0 := hX1.cell (k := 0) (v := .int .i64 6) rfl;have HX := hid (hX1.below b2);have hY := xqd (w.alloc (.cells (ndC 6 (ca : Int) (cb : Int) n' t u p') 51)) 153 (bdC 2 2 3 (strOf [47]));have k0' : ((w.alloc (.cells (ndC 6 (ca : Int) (cb : Int) n' t u p') 51)).alloc (.cells (bdC 2 2 3 (strOf [47])) 153)).cell? ⟨w.heap.size, 0, none⟩ = some (.int .i64 6) := HX.out.cell rfl;have bw := xqa b1 b2;have H0 := hid (h.below bw);have K0 := hid (KnW.below (B := w0.heap.size) (q := q) bw);have B0 := hid (hb.trans (bw.mono hsz));have S0 := hid (Nat.le_trans hsz bw.size);have HL := hid hl;have HQ := hid hq;have Hqx : Hid (w.heap.size ≠ q ∧ w.heap.size + 1 ≠ q) := by constructor <;> omega
 have HY : Hid (RowA ((w.alloc (.cells (ndC 6 (ca : Int) (cb : Int) n' t u p') 51)).alloc (.cells (bdC 2 2 3 (strOf [47])) 153)) (w.heap.size + 1) 153 (bdC 2 2 3 (strOf [47]))) := by
  rw [World.size_alloc] at hY;exact hY
 have Hig := hid ih;have HG := hid hg;have HRR := hid HR;have HTT := hid HT;have HPP := hid HP;clear ih h hb hl hq hqs hsz hin hX1 hY bw b1 b2 hgl HTw hg HR HT HP hx hf h1c h2c hNl;go_enter Tryz.func96, Tryz.ntmps96
 go_upto_region 2 with (first | (refine xqf (by rfl) _ _ (by rfl) _ _ (by rfl) _ (by assumption) (by assumption) ?_) | (refine xqg (by rfl) _ _ _ (by rfl) _ _ _ (by rfl) (by rfl) (by assumption) ?_))
 clear k0 k0' HI1 HI2 HM1 HM2 HU1 HU2 c0;generalize (w.alloc (.cells (ndC 6 (ca : Int) (cb : Int) n' t u p') 51)).alloc (.cells (bdC 2 2 3 (strOf [47])) 153) = wa at *;obtain ⟨gx, hgx⟩ : ∃ y, y = w.heap.size := ⟨_, rfl⟩;obtain ⟨gy, hgy⟩ : ∃ y, y = w.heap.size + 1 := ⟨_, rfl⟩
 try rw [← hgy]
 try rw [← hgx]
 rw [← hgy] at HY Hqx;rw [← hgx] at HX Hqx;clear hgx hgy;have k0 := HX.out.cell (k := 0) (v := .int .i64 6) rfl;have k1 := HX.out.cell (k := 1) (v := .int .i64 (ca : Int)) rfl;have k10 := HY.out.cell (k := 1) (v := .int .i64 2) rfl;go_wp2_with (go_at_call 127; refine (xvy HG.out HRR.out HTT.out (j := ca) (by have := hca.out.1; have := hca.out.2; omega) (Hig.out ca hca.out.1) 2 (by decide) (xje (xwc ts ca)) (bOwn2 (kn_of HG.out hca.out.2)) wa q (l) B0.out H0.out (by have h1 := HL.out; rw [HXe.out] at h1; simp only [List.length_append] at h1 ⊢; omega)).mono ?_);rintro e w1 ⟨rfl, hh, kk⟩;have H1 : Hid (Bd_w w1 w0.heap.size q (some ⟨g, og, none⟩) N D (l ++ xj7 (xje (xwc ts ca)) (ndX ts ca))) := hh;have K1 := hid (K0.out.trans kk);have S1 := hid (Nat.le_trans S0.out kk.size);have B1 := hid (B0.out.trans (kk.low HQ.out S0.out));replace HX := hid (kk.row HX.out Hqx.out.1 (by decide));replace HY := hid (kk.row HY.out Hqx.out.2 (by decide));clear hh kk H0 K0 S0 B0 k0 k1 k10;have k12 := HY.out.cell (k := 3) (v := .string (strOf [47])) rfl;go_wp2_with (first | (go_at_call 126; refine (xzy H1.out (strOf [47]) (by have h1 := HL.out; rw [HXe.out] at h1; rw [xqh]; simp only [List.length_append] at h1 ⊢; omega) S1.out).mono ?_));rintro e w2 ⟨rfl, hh, kk⟩;have H2 : Hid (Bd_w w2 w0.heap.size q (some ⟨g, og, none⟩) N D (l ++ xj7 (xje (xwc ts ca)) (ndX ts ca) ++ [47])) := by rw [xqk (by unfold Bytes; decide)] at hh; exact hh
 have K2 := hid (K1.out.trans kk);have S2 := hid (Nat.le_trans S1.out kk.size);have B2 := hid (B1.out.trans (kk.low HQ.out S1.out));replace HX := hid (kk.row HX.out Hqx.out.1 (by decide));replace HY := hid (kk.row HY.out Hqx.out.2 (by decide));clear hh kk H1 K1 S1 B1 k12;have k2 := HX.out.cell (k := 2) (v := .int .i64 (cb : Int)) rfl;have k11 := HY.out.cell (k := 2) (v := .int .i64 3) rfl;go_wp2_with (go_at_call 127; refine (xvy HG.out HRR.out HTT.out (j := cb) (by have := hcb.out.1; have := hcb.out.2; omega) (Hig.out cb hcb.out.1) 3 (by decide) (xq8 (xwc ts cb)) (bOwn3 (kn_of HG.out hcb.out.2)) w2 q (l ++ xj7 (xje (xwc ts ca)) (ndX ts ca) ++ [47]) B2.out H2.out (by have h1 := HL.out; rw [HXe.out] at h1; simp only [List.length_append] at h1 ⊢; omega)).mono ?_);rintro e w3 ⟨rfl, hh, kk⟩;have H3 : Hid (Bd_w w3 w0.heap.size q (some ⟨g, og, none⟩) N D (l ++ xj7 (xje (xwc ts ca)) (ndX ts ca) ++ [47] ++ xj7 (xq8 (xwc ts cb)) (ndX ts cb))) := hh;have K3 := hid (K2.out.trans kk);have S3 := hid (Nat.le_trans S2.out kk.size);have B3 := hid (B2.out.trans (kk.low HQ.out S2.out));replace HX := hid (kk.row HX.out Hqx.out.1 (by decide));replace HY := hid (kk.row HY.out Hqx.out.2 (by decide));clear hh kk H2 K2 S2 B2 k2 k11;go_wp2
 go_end0
 refine ⟨rfl, ?_, K3.out⟩;rw [HXe.out, ← List.append_assoc, ← List.append_assoc];exact H3.out
theorem wNode_c {w0 : World} {C : Option Addr} {N D : Nat} {ts : List Nd} (hg : xq5 ts = true) (hm : Mild ts) (HR : TreR w0 C N D ts) (HT : BTab w0) (HP : P10 w0) : ∀ i, i < ts.length → xzr w0 C N D ts i := by
 intro i;induction i using Nat.strongRecOn with
 | _ i ih =>
 intro hi;have ih : ∀ j, j < i → xzr w0 C N D ts j := fun j hj => ih j hj (by omega)
 have hx : ts[i]? = some ts[i] := List.getElem?_eq_getElem hi;have hk := zq8 (xzg hg hx).1;have hk8 : ts[i].k = 1 ∨ ts[i].k = 2 ∨ ts[i].k = 3 ∨ ts[i].k = 4 ∨ ts[i].k = 5 ∨ ts[i].k = 6 ∨ ts[i].k = 7 ∨ ts[i].k = 8 := by omega
 rcases hk8 with h | h | h | h | h | h | h | h
 · by_cases hu : ts[i].u.size = 0
   · exact wNode_lit0 hg hm HR HT HP hi ih hx h hu
   · exact wNode_lit1 hg hm HR HT HP hi ih hx h hu
 · exact wNode_ref hg hm HR HT HP hi ih hx h
 · exact wNode_two3 hg hm HR HT HP hi ih hx h
 · exact wNode_two4 hg hm HR HT HP hi ih hx h
 · exact wNode_two5 hg hm HR HT HP hi ih hx h
 · exact wNode_two6 hg hm HR HT HP hi ih hx h
 · exact wNode_neg hg hm HR HT HP hi ih hx h
 · exact wNode_pow hg hm HR HT HP hi ih hx h
theorem sizeWr : (Tryz.prog.info? 131).map (·.size) = some 3 := by kernel_rfl
theorem yq3 {ts : List Nd} (hg : xq5 ts = true) (hm : Mild ts) : (xzz ts).length ≤ 5000000000000 := by
 have h1 := txtT_le hg
 have h2 := sum_leW (ts.map wtN) 2000008 (fun x hx => by
  obtain ⟨y, hy, rfl⟩ := List.mem_map.1 hx;have := hm.2 y hy
  unfold wtN; omega)
 rw [List.length_map] at h2;have := hm.1;have h3 : 2000008 * ts.length ≤ 2000008 * 1000000 := Nat.mul_le_mul_left _ this;omega
set_option maxRecDepth 100000 in
/-- The text of a formula that may be. -/
theorem zqg {w : World} {A : Option Addr} {n c : Nat} {ts : List Nd} (h : TreR w A n c ts) (hg : xq5 ts = true) (hm : Mild ts) (T : WrT w) :
 Calls Tryz.prog 55 #[.slice A n c] w fun e w' => e = .returned (.string (strOf (xzz ts))) ∧ Below w.heap.size w w' := by
 have hlen := (xz4 hg).1;have hn := h.len;have hn1 : 1 ≤ n := by omega
 have hn2 : n ≤ 1000000 := by have := hm.1; omega
 have hb := xqc w (.cells #[.slice A n c, .pointer none, .slice none 0 0] 131);have hR := xqd w 131 #[.slice A n c, .pointer none, .slice none 0 0];have HBd : Hid (∀ W, (Instr.build 131 ([(0, .slice A n c)] : List (Nat × Value)).toArray).run Tryz.prog W = .ok (.agg #[.slice A n c, .pointer none, .slice none 0 0]) W) := fun W => by kernel_rfl
 have HU : Hid (xq7 Tryz.prog 131 (#[.slice A n c, .pointer none, .slice none 0 0] : Array Value).size ∧ (#[.slice none 0 0, .pointer none, .slice none 0 0] : Array Value).size = (#[.slice A n c, .pointer none, .slice none 0 0] : Array Value).size ∧ ∀ v ∈ (#[.slice A n c, .pointer none, .slice none 0 0] : Array Value), v.oneCell' = true) := ⟨⟨sizeWr, _, Tryz.underlying131, rfl⟩, rfl, by simp [Value.oneCell']⟩;have HD : Hid (Bd_w (w.alloc (.cells #[.slice A n c, .pointer none, .slice none 0 0] 131)) w.heap.size w.heap.size A n c []) := ⟨_, none, 0, 0, .inl rfl, ⟨Nat.le_refl _, hR, rfl, OwnR.nil _ _ _ _, by decide⟩⟩;have HK := hid (wNode_c hg hm h T.2.1 T.2.2 (n - 1) (by omega));have HTX : Hid (ndX ts (n - 1) = xzz ts) := by show _ = _; rw [hn, txtT_nd]
 have HS := hid (yq3 hg hm);have HY := hid (txtT_bytes ts hg);have HB := hid hb;clear h hg hm T hb hR hlen hn;go_enter Tryz.func55, Tryz.ntmps55
 go_upto_region 2 with (first | (refine xqn (by rfl) _ _ (by rfl) _ (by rfl) _ (by assumption) ?_) | (refine xqg (by rfl) _ _ _ (by rfl) _ _ _ (by rfl) (by rfl) (by assumption) ?_))
 generalize w.alloc (.cells #[.slice A n c, .pointer none, .slice none 0 0] 131) = w1 at *;obtain ⟨q, hq⟩ : ∃ q, q = w.heap.size := ⟨_, rfl⟩;obtain ⟨B, hB⟩ : ∃ B, B = w.heap.size := ⟨_, rfl⟩;have HD2 : Hid (Bd_w w1 w.heap.size q A n c []) := by show Bd_w _ _ _ _ _ _ _; rw [hq]; exact HD.out
 have Hq := hid hq;rw [← hq];have en : (n : Int) - 1 = ((n - 1 : Nat) : Int) := by omega
 obtain ⟨m, hm⟩ : ∃ m, n - 1 = m := ⟨_, rfl⟩;rw [hm] at en;have HK2 : Hid (xzr w A n c ts m) := by show xzr _ _ _ _ _ _; rw [← hm]; exact HK.out
 have HTX2 : Hid (ndX ts m = xzz ts) := by show _ = _; rw [← hm]; exact HTX.out
 clear HD HK HTX HBd HU hq hB hm;go_wp2_with (go_at_call 96; refine (HK2.out w1 q [] HB.out HD2.out (by rw [HTX2.out]; have := HS.out; show 0 + _ ≤ _; omega)).mono ?_);rintro e w2 ⟨rfl, h2, k2⟩;rw [List.nil_append, HTX2.out] at h2;have H2 := hid h2;have B2 := hid (HB.out.trans (k2.low (by rw [Hq.out]; exact Nat.le_refl _) HB.out.size));clear h2 k2;go_wp2_with (go_at_call 59; refine (string_w H2.out HY.out B2.out.size).mono ?_);rintro e w3 ⟨rfl, b3⟩;have B3 := hid (B2.out.trans b3);clear b3;go_wp2
 go_ret
 exact ⟨rfl, B3.out⟩
def frmO (ts : List Nd) : List Nat := if xq5 ts = true then xzz ts else []
set_option maxRecDepth 100000 in
theorem wFormula_c {w : World} {A : Option Addr} {n c : Nat} {ts : List Nd} (h : TreR w A n c ts) (hm : Mild ts) (T : WrT w) (g : Bool) (hg : xq5 ts = g) (S : ByteArray) (hS : strOf (frmO ts) = S) :
 Calls Tryz.prog 29 #[.slice A n c] w fun e w' => e = .returned (.tuple #[.string S, .bool g]) ∧ Below w.heap.size w w' := by
 have H := hid h;have HM := hid hm;have HT := hid T;have HG := hid hg;have HS := hid hS;clear h hm T hg hS;go_enter Tryz.func29, Tryz.ntmps29;cases g with
 | false =>
  go_wp2_with (go_at_call 54; refine (xw5 H.out HM.out HT.out.1 false HG.out).mono ?_);rintro e w1 ⟨rfl, b1⟩;have B1 := hid b1;clear b1;go_wp2
  go_ret2
  refine ⟨?_, B1.out⟩;rw [← HS.out];unfold frmO;rw [if_neg (by rw [HG.out]; decide)]; rfl
 | true =>
  go_wp2_with (go_at_call 54; refine (xw5 H.out HM.out HT.out.1 true HG.out).mono ?_);rintro e w1 ⟨rfl, b1⟩;have B1 := hid b1;have H1 := hid (H.out.below b1);have T1 := hid (HT.out.below b1);clear b1;go_wp2_with (go_at_call 55; refine (zqg H1.out HG.out HM.out T1.out).mono ?_);rintro e w2 ⟨rfl, b2⟩;have B2 := hid (xqa B1.out b2);have e1 : strOf (xzz ts) = S := by rw [← HS.out]; unfold frmO; rw [if_pos HG.out]
  rw [e1];clear b2 e1;go_wp2
  go_ret2
  exact ⟨rfl, B2.out⟩
theorem unitG_ok (s : ByteArray) : unitG (bytesOf s) = xjt s := by
 unfold unitG xjt;rw [xqe];have h1 : (bytesOf s).all (fun c => decide (c < 256)) = true := List.all_eq_true.2 fun c hc => decide_eq_true (xjg s c hc)
 rw [h1, Bool.and_true]
 congr 1
 refine List.all_congr rfl fun c => ?_
 unfold yqg;by_cases e1 : c = 93 <;> by_cases e2 : c = 10 <;> simp [e1, e2]
set_option maxRecDepth 100000 in
theorem yj6 (s : ByteArray) (hs : s.size ≤ 1000000) {w : World} (T : XTab w) (v : Bool) (hv : xjt s = v) :
 Calls Tryz.prog 103 #[.string s] w fun e w' => e = .returned (.bool v) ∧ Below w.heap.size w w' := by
 have hR : (packR ⟨1, 0, 0, 0, ⟨#[49]⟩, s, 0⟩ []).isSome = v := by
  have hf : xjw ⟨1, 0, 0, 0, ⟨#[49]⟩, s, 0⟩ = xjt s := by
   unfold xjw;rw [if_pos rfl];have h1 : xq0 (bytesOf ⟨#[49]⟩) = true := by decide
   simp [h1]
  unfold packR;rw [hf, hv];cases v <;> simp [sumL]
 obtain ⟨R, hRR⟩ : ∃ R, packR ⟨1, 0, 0, 0, ⟨#[49]⟩, s, 0⟩ [] = R := ⟨_, rfl⟩;rw [hRR] at hR;have HR := hid hRR;have HV := hid hR;have HT := hid T;clear hR hRR T hv;go_enter Tryz.func103, Tryz.ntmps103;go_wp2_with (go_at_call 134; refine (tLit_c ⟨#[49]⟩ s (by decide) hs HT.out R HR.out).mono ?_);rintro e w1 ⟨A2, n2, c2, rfl, _, b1⟩;rw [HV.out];have B1 := hid b1;clear b1;go_wp2
 go_ret
 exact ⟨rfl, B1.out⟩
theorem trimLite_yes (S : ByteArray) (h : (bytesOf S).head? = some 45) (w : World) :
 Calls Tryz.prog 154 #[.string S, .string ⟨#[45]⟩] w fun e w' => ∃ R : ByteArray, e = .returned (.string R) ∧ bytesOf R = (bytesOf S).tail ∧ w = w' := by
 have h0 : S.size ≠ 0 := by
  intro h0;rw [List.eq_nil_of_length_eq_zero ((xqe S).trans h0)] at h;cases h
 have h1 : (1 : Int) ≤ (S.size : Int) := by omega
 have h2 : 1 ≤ S.size := by omega
 have HT := hid (bytesOf_tail h2);have HC := hid (hasMinus_c S true (by rw [h]; rfl) w);obtain ⟨R, hR⟩ : ∃ R, S.extract 1 S.size = R := ⟨_, rfl⟩;rw [hR] at HT;clear h h0;go_enter Tryz.func154, Tryz.ntmps154;go_wp2_with fail
 refine HC.out.mono ?_;rintro e w2 ⟨rfl, rfl⟩;go_wp2
 go_ret
 exact ⟨R, rfl, HT.out, rfl⟩
theorem trimLite_no (S : ByteArray) (h : (bytesOf S).head? ≠ some 45) (w : World) :
 Calls Tryz.prog 154 #[.string S, .string ⟨#[45]⟩] w fun e w' => e = .returned (.string S) ∧ w = w' := by
 have HC := hid (hasMinus_c S false (by simpa using h) w);clear h;go_enter Tryz.func154, Tryz.ntmps154;go_wp2_with fail
 refine HC.out.mono ?_;rintro e w2 ⟨rfl, rfl⟩;go_wp2
 go_ret
 exact ⟨rfl, rfl⟩
def noSg (l : List Nat) : List Nat := match l with
 | [] => []
 | c :: r => if c = 45 then r else c :: r
theorem trim_c (S : ByteArray) (w : World) :
 Calls Tryz.prog 133 #[.string S, .string ⟨#[45]⟩] w fun e w' => ∃ R : ByteArray, e = .returned (.string R) ∧ bytesOf R = noSg (bytesOf S) ∧ w = w' := by
 by_cases h : (bytesOf S).head? = some 45
 · have HC := hid (trimLite_yes S h w);have hn : Hid (noSg (bytesOf S) = (bytesOf S).tail) := by
    show _ = _;cases hb : bytesOf S with
    | nil => rw [hb] at h; cases h
    | cons c r => rw [hb] at h; injection h with h; subst h; rfl
   clear h;go_enter Tryz.func133, Tryz.ntmps133;go_wp2_with fail
   refine HC.out.mono ?_;rintro e w2 ⟨R, rfl, hR, rfl⟩;have HR := hid hR;clear hR;go_wp2
   go_ret
   exact ⟨R, rfl, by rw [hn.out]; exact HR.out, rfl⟩
 · have HC := hid (trimLite_no S h w);have hn : Hid (noSg (bytesOf S) = bytesOf S) := by
    show _ = _;cases hb : bytesOf S with
    | nil => rfl
    | cons c r => rw [hb] at h; show (if c = 45 then r else c :: r) = _; rw [if_neg (fun e => h (by rw [e]; rfl))]
   clear h;go_enter Tryz.func133, Tryz.ntmps133;go_wp2_with fail
   refine HC.out.mono ?_;rintro e w2 ⟨rfl, rfl⟩;go_wp2
   go_ret
   exact ⟨S, rfl, hn.out.symm, rfl⟩
theorem numG_no (l : List Nat) : ywj l = yzu (noSg l) := by
 cases l with
 | nil => rfl
 | cons c r =>
  show (if c = 45 then yzu r else yzu (c :: r)) = yzu (if c = 45 then r else c :: r)
  split <;> rfl
theorem noSg_len (l : List Nat) : (noSg l).length ≤ l.length := by
 cases l with
 | nil => exact Nat.le_refl _
 | cons c r => show (if c = 45 then r else c :: r).length ≤ _; split <;> simp
theorem split47 (l : List Nat) : (47 ∉ l ∧ (l.takeWhile (· ≠ 47)).length = l.length) ∨ ∃ a b, l = a ++ 47 :: b ∧ 47 ∉ a ∧ l.takeWhile (· ≠ 47) = a ∧ l.drop (a.length + 1) = b := by
 induction l with
 | nil => exact .inl ⟨by simp, rfl⟩
 | cons c l ih =>
  by_cases hc : c = 47
  · subst hc;exact .inr ⟨[], l, rfl, by simp, by simp, rfl⟩
  · have hp : (c :: l).takeWhile (· ≠ 47) = c :: l.takeWhile (· ≠ 47) := by simp [hc]
    rcases ih with ⟨h1, h2⟩ | ⟨a, b, h1, h2, h3, h4⟩
    · refine .inl ⟨fun h => ?_, ?_⟩
      · rcases List.mem_cons.1 h with h | h
        · exact hc h.symm
        · exact h1 h
      · rw [hp, List.length_cons, h2]; rfl
    · refine .inr ⟨c :: a, b, by rw [h1]; rfl, fun h => ?_, ?_, ?_⟩
      · rcases List.mem_cons.1 h with h | h
        · exact hc h.symm
        · exact h2 h
      · rw [hp, h3]
      · rw [List.length_cons, List.drop_succ_cons, h4]
set_option maxRecDepth 100000 in
theorem ywf (s : ByteArray) (hs : s.size ≤ 1000000) {w : World} (T : XTab w) (v : Bool) (hv : ywj (bytesOf s) = v) :
 Calls Tryz.prog 102 #[.string s] w fun e w' => e = .returned (.bool v) ∧ Below w.heap.size w w' := by
 rw [numG_no] at hv;have HL : Hid ((noSg (bytesOf s)).length ≤ 1000000) := by show _ ≤ _; have h1 := noSg_len (bytesOf s); rw [xqe] at h1; omega
 have HT := hid T;clear T;rcases split47 (noSg (bytesOf s)) with ⟨h1, h2⟩ | ⟨a, b, h1, h2, h3, h4⟩
 · have HV : Hid (xq0 (noSg (bytesOf s)) = v) := by show _ = _; rw [← hv]; unfold yzu; rw [if_neg (by omega)]
   have H1 := hid h1;clear h1 h2 hv;go_enter Tryz.func102, Tryz.ntmps102;go_wp2_with (go_at_call 133; refine (trim_c s w).mono ?_);rintro e w1 ⟨R, rfl, hR, rfl⟩;have HR := hid hR;clear hR;go_wp2_with (go_at_call 132; refine (cutMiss_c R 47 (by rw [HR.out]; exact H1.out) w).mono ?_);rintro e w2 ⟨rfl, b2⟩;have B2 := hid b2;have T2 := hid (HT.out.below b2);clear b2;cases v with
   | false =>
    go_wp2_with (go_at_call 124; refine (xwn R (by have h1 := HL.out; rw [← HR.out, xqe] at h1; omega) w2 T2.out.1 false (by rw [HR.out]; exact HV.out)).mono ?_; rintro e w3 ⟨rfl, rfl⟩);go_ret
    exact ⟨rfl, B2.out⟩
   | true =>
    go_wp2_with (go_at_call 124; refine (xwn R (by have h1 := HL.out; rw [← HR.out, xqe] at h1; omega) w2 T2.out.1 true (by rw [HR.out]; exact HV.out)).mono ?_; rintro e w3 ⟨rfl, rfl⟩);go_ret
    exact ⟨rfl, B2.out⟩
 · have hlt : a.length < (noSg (bytesOf s)).length := by rw [h1]; simp
   have HV : Hid ((xq0 a && xq0 b) = v) := by show _ = _; rw [← hv]; unfold yzu; rw [h3, if_pos hlt, h4]
   have H1 := hid h1;have H2 := hid h2;have HA : Hid (a.length ≤ 1000000 ∧ b.length ≤ 1000000) := by
    have h5 := HL.out;rw [h1] at h5;simp at h5;exact ⟨by omega, by omega⟩
   clear h1 h2 h3 h4 hv hlt;go_enter Tryz.func102, Tryz.ntmps102;go_wp2_with (go_at_call 133; refine (trim_c s w).mono ?_);rintro e w1 ⟨R, rfl, hR, rfl⟩;have HR := hid hR;clear hR;go_wp2_with (go_at_call 132; refine (cutHit_c R (by have h1 := HL.out; rw [← HR.out, xqe] at h1; omega) 47 a b (by rw [HR.out]; exact H1.out) H2.out w).mono ?_);rintro e w2 ⟨S1, S2, rfl, hS1, hS2, b2⟩;have HS1 := hid hS1;have HS2 := hid hS2;have z1 : S1.size ≤ 1000000 := by have := HA.out.1; rw [← hS1, xqe] at this; exact this
   have z2 : S2.size ≤ 1000000 := by have := HA.out.2; rw [← hS2, xqe] at this; exact this
   have B2 := hid b2;have T2 := hid (HT.out.below b2);clear b2 hS1 hS2;cases h1 : xq0 a with
   | false =>
    have HVe : Hid (v = false) := by show _ = _; rw [← HV.out, h1]; rfl
    have H1g := hid h1;clear h1;go_wp2_with (go_at_call 124; refine (xwn S1 (by omega) w2 T2.out.1 false (by rw [HS1.out]; exact H1g.out)).mono ?_; rintro e w3 ⟨rfl, rfl⟩);go_ret
    exact ⟨by rw [HVe.out]; rfl, B2.out⟩
   | true =>
    have HVe : Hid (xq0 b = v) := by show _ = _; rw [← HV.out, h1]; rfl
    have H1g := hid h1;clear h1;have HG1 := hid (xwn S1 (by omega) w2 T2.out.1 true (by rw [HS1.out]; exact H1g.out));have HG2 := hid (xwn S2 (by omega) w2 T2.out.1 v (by rw [HS2.out]; exact HVe.out));go_wp2_with (first | (go_at_call 124; with_reducible refine HG1.out.mono ?_; rintro e w3 ⟨rfl, rfl⟩) | (go_at_call 124; with_reducible refine HG2.out.mono ?_; rintro e w3 ⟨rfl, rfl⟩));go_ret
    exact ⟨rfl, B2.out⟩
end Go.Proofs.YtannifhcjcbkcaaGreatDoor
