/- Part 12 of the texts that the statements of this seat lean on: mathematics, and what functions answer, as contracts over memory; each part says its own conditions. -/
import Derived.Test.YtannifhcjcbkcaaGreatDoorMB11
import Derived.Lib.LaidTab
import Derived.Lib.LaidU8
import Derived.Stop.LaidErr
import Derived.Lib.Builder
import Derived.Lib.AppendStr
import Derived.Lib.UnsafeStr
import Derived.Lib.Walk
import Derived.Lib.MakeNoZero
import Derived.Laws.Externs
import Derived.Shelf.RegionOpenPlain
import Derived.Test.YtannifhcjcbkcaaGreatDoorShelf
import Derived.Lib.ItoaNum
import Derived.Lib.AppendIntMem
set_option linter.unusedVariables false
set_option maxHeartbeats 8000000
namespace Go.Proofs.YtannifhcjcbkcaaGreatDoor
open Go.RowKit Limb
open Lib (hid)
theorem zq4 : ∀ (f a : Nat) (l : List Nat) (ts : List Tk), yv5 f a l = .ok ts → ts.length ≤ l.length
 | 0, _, _, _, h => by cases h
 | f + 1, a, [], ts, h => by cases h; exact Nat.le_refl _
 | f + 1, a, c :: r, ts, h => by
  unfold yv5 at h;cases e : xwq c r with
  | bad => rw [e] at h; cases h
  | skip n =>
   rw [e] at h;have hl := zq4 f _ _ ts h;rw [List.length_drop] at hl;omega
  | tok k s n =>
   rw [e] at h;have hn := lexS_len.2 k s n e;dsimp only at h;cases e2 : yv5 f (a + n) ((c :: r).drop n) with
   | bad p => rw [e2] at h; cases h
   | ok us =>
    rw [e2] at h;cases h
    have hl := zq4 f _ _ us e2;rw [List.length_drop] at hl;rw [List.length_cons] at hl ⊢;rw [List.length_cons];omega
theorem ini_len (L : Lim) (hL : L.Fit) (bs : List Nat) : (yqn L bs).l.length ≤ 4000 := by
 unfold yqn;have h4 := hL.2.2.2
 split
 · exact Nat.zero_le _
 · cases e : lexT bs with
   | bad p => exact Nat.zero_le _
   | ok ts =>
    have := zq4 _ _ _ _ (show yv5 _ _ _ = .ok ts from e);show ts.length ≤ _;omega
theorem ini_fu {L : Lim} (hL : L.Fit) (bs : List Nat) : Fu L (L.deep + 2) (nilS (yqn L bs)) := by
 have h1 := ini_len L hL bs;have h2 := iniS_op L bs;have hmu : mu (yqn L bs).l ≤ 4001 := by unfold mu; split <;> omega
 refine ⟨by omega, fun _ => ⟨?_, ?_⟩, ?_, ?_, ?_⟩
 · show (yqn L bs).op ≤ _; rw [h2.1]; exact Nat.zero_le _
 · show _ ≤ _ + (yqn L bs).op; omega
 · show (yqn L bs).op ≤ _; rw [h2.1]; exact Nat.zero_le _
 · show 0 + mu (yqn L bs).l ≤ _; omega
 · show (yqn L bs).mad + mu (yqn L bs).l ≤ _; rw [h2.2.1]; omega
set_option maxRecDepth 100000 in
theorem pFormula_c (s : ByteArray) (hs : s.size ≤ 1000000000) (a b c d : Int) (w : World) (T : PTab w) (ts : List Nd) (E P : Int) (hR : frmV (xjd a b c d) (bytesOf s) = (ts, E, P)) :
 Calls Tryz.prog 12 #[.string s, .agg #[.int .i64 a, .int .i64 b, .int .i64 c, .int .i64 d]] w fun e w' => ∃ A n c, e = .returned (.tuple #[.slice A n c, .agg (xzw E P)]) ∧ TreR w' A n c ts ∧ Below w.heap.size w w' := by
 have HT0 := hid T;have b1 := xqc w (.cells #[.int .i64 a, .int .i64 b, .int .i64 c, .int .i64 d] 23);have b2 := xqc (w.alloc (.cells #[.int .i64 a, .int .i64 b, .int .i64 c, .int .i64 d] 23)) (.cells (xzw 0 0) 29);have b12 := xqa b1 b2;have hZ := xqd (w.alloc (.cells #[.int .i64 a, .int .i64 b, .int .i64 c, .int .i64 d] 23)) 29 (xzw 0 0);have hLm := (xqd w 23 #[.int .i64 a, .int .i64 b, .int .i64 c, .int .i64 d]).below b2;have HI := hid hLm.inV;have HM : Hid (xq7 Tryz.prog 23 (#[.int .i64 a, .int .i64 b, .int .i64 c, .int .i64 d] : Array Value).size) := ⟨sizeLm, _, Tryz.underlying23, rfl⟩;have HZ := hid hZ;have HB := hid b12;have HT := hid (T.below b12);have hgf : Hid (w.heap.size ≤ (w.alloc (.cells #[.int .i64 a, .int .i64 b, .int .i64 c, .int .i64 d] 23)).heap.size) := b1.size;have hfw : Hid ((w.alloc (.cells #[.int .i64 a, .int .i64 b, .int .i64 c, .int .i64 d] 23)).heap.size < ((w.alloc (.cells #[.int .i64 a, .int .i64 b, .int .i64 c, .int .i64 d] 23)).alloc (.cells (xzw 0 0) 29)).heap.size) := hZ.lt;clear b1 b2 b12 hZ hLm T;go_enter Tryz.func12, Tryz.ntmps12;go_wp2_with (refine xqf (by rfl) _ _ (by rfl) _ _ (by rfl) _ (by assumption) (by assumption) ?_);have esz : (w.alloc (.cells #[.int .i64 a, .int .i64 b, .int .i64 c, .int .i64 d] 23)).heap.size = w.heap.size + 1 := by simp
 rw [esz] at HZ hgf hfw;clear esz;obtain ⟨gf, hgf2⟩ : ∃ g, g = w.heap.size + 1 := ⟨_, rfl⟩;rw [← hgf2] at HZ hgf hfw ⊢;clear hgf2;generalize (w.alloc (.cells #[.int .i64 a, .int .i64 b, .int .i64 c, .int .i64 d] 23)).alloc (.cells (xzw 0 0) 29) = w1 at *;clear HI HM;refine (pNew_c s hs a b c d w1 HT.out).mono ?_;rintro e w2 ⟨q, rfl, hq, B, h2, hB, bn⟩;have HB2 := hid (xqa HB.out bn);have HZ2 := hid (HZ.out.below bn);have H2 := hid h2;have Hb := hid hB;have hqf : Hid (q ≠ gf) := by show _ ≠ _; have := hfw.out; omega
 have hqw : Hid (w.heap.size ≤ q) := Nat.le_trans (Nat.le_trans hgf.out (Nat.le_of_lt hfw.out)) hq;clear hq h2 hB bn HZ HB HT hfw;have hL := cutL_fit a b c d;have HL := hid hL;have hen := xqe s;have Hen := hid hen;clear hL hen;have hall := frm_all (K := ((xjd a b c d).deep + 2)) HL.out (Nat.le_refl _) hR;rw [Hen.out] at hall;have Hall := hid hall;clear hall hR;go_wp2_with fail
 refine (pTree_c H2.out Hb.out HL.out (ini_fu HL.out (bytesOf s))).mono ?_;rintro e w3 ⟨C, m, dd, tsx, rfl, hO, hts, h3, hg⟩;have H3 := hid h3;have HO := hid hO;have Hts := hid hts;have HB3 := hid (yvo HB2.out hg hqw.out);have HZ3 := hid (HZ2.out.grown hg (fun e => hqf.out (by injection e)));clear hO hts h3 hg H2 HB2 HZ2 Hb;generalize hT0 : (xwu (xjd a b c d) s.size ((xjd a b c d).deep + 2) (yqn (xjd a b c d) (bytesOf s))) = t0 at *;have HT1 := hid hT0;clear hT0;cases hl : t0.l with
 | nil =>
  have hlf : Hid (decide (0 < t0.l.length) = false) := by show _ = _; rw [hl]; rfl
  have hfr : Hid (frmS (xjd a b c d) s.size ((xjd a b c d).deep + 2) (yqn (xjd a b c d) (bytesOf s)) = t0) := by show _ = _; unfold frmS; rw [HT1.out, if_pos hl]
  clear hl;have HO3 := hid HO.out.x;clear HO;go_wp2_with fail
  have hmo := xwl H3.out;rw [hlf.out] at hmo;refine hmo.mono ?_;clear hmo;rintro e wY ⟨rfl, rfl⟩;by_cases hE : E = 0
  · subst hE;obtain ⟨k1, rfl, k3⟩ := Hall.out.1 rfl;have hE0 : Hid (t0.E = 0) := by show _ = _; rw [← hfr.out]; exact k3
    have htt : Hid (tsx = ts) := by show _ = _; rw [Hts.out hE0.out]; exact k1
    clear k1 k3;go_wp2_with fail
    have hfa := xv2 H3.out;rw [hE0.out] at hfa;refine hfa.mono ?_;clear hfa;rintro e wZ ⟨rfl, rfl⟩;have HRf := hid (RowA.fill HZ3.out (V' := xzw 0 0));have hgz := ywo wZ gf (xzw 0 0);have HBf := hid (xqv HB3.out hgf.out (xzw 0 0))
    skip
    have HTr : Hid (TreR (wZ.setRow gf (xzw 0 0)) C m dd ts) := by
     have h := HO3.out.over HZ3.out (by decide) hgz;rw [htt.out] at h;exact h.tree
    clear hgz;go_wp2_with (refine xqi (by rfl) _ _ _ (by rfl) _ (by rfl) _ (by rfl) _ _ (by assumption) (hid (fitsF 0 0)) ?_);refine bodyPost_ret (xjf rfl _ _ _ 29 (xzw 0 0) (0, 0) _ (.slice C m dd) rfl rfl HRf.out Tryz.underlying29 rfl sizeF) rfl ?_;exact ⟨_, _, _, rfl, HTr.out, HBf.out⟩
  · obtain ⟨rfl, k2, k3⟩ := Hall.out.2 hE;have hEP : Hid (t0.E = E ∧ t0.P = P) := by show _ ∧ _; rw [← hfr.out]; exact ⟨k2, k3⟩
    have hfE : Hid ((!decide (t0.E = 0)) = true) := by show _ = _; rw [hEP.out.1, decide_eq_false hE]; rfl
    clear k2 k3 hE;go_wp2_with fail
    have hfa := xv2 H3.out;rw [hfE.out] at hfa;refine hfa.mono ?_;clear hfa;rintro e wZ ⟨rfl, rfl⟩;generalize wZ = w13 at *;obtain ⟨A8, n8, c8, C8, m8, d8, r8⟩ := H3.out.size;rw [hEP.out.1, hEP.out.2] at r8;have c6 := r8.cell (k := 6) (v := .int .i64 E) rfl;have c7 := r8.cell (k := 7) (v := .int .i64 P) rfl;have y6 := r8.drew.cell (k := 6) (v := .int .i64 E) rfl;have y7 := r8.drew.cell (k := 7) (v := .int .i64 P) rfl;have z0 := HZ3.out.cell (k := 0) (v := .int .i64 0) rfl;have z1 := HZ3.out.cell (k := 1) (v := .int .i64 0) rfl;have f0 := HZ3.out.free 0;have f1 := HZ3.out.free 1;have x0 := HZ3.out.drew.cell (k := 0) (v := .int .i64 0) rfl;have x1 := HZ3.out.drew.cell (k := 1) (v := .int .i64 0) rfl;clear r8;go_wp2_with fail
    go_region
    have HR : Hid (RowA ((w13.setCell ⟨gf, 0, none⟩ (.int .i64 E)).setCell ⟨gf, 1, none⟩ (.int .i64 P)).drew gf 29 (xzw E P)) := (((HZ3.out.set 0 (.int .i64 E)).set 1 (.int .i64 P)).drew :);have HBf : Hid (Below w.heap.size w ((w13.setCell ⟨gf, 0, none⟩ (.int .i64 E)).setCell ⟨gf, 1, none⟩ (.int .i64 P)).drew) := (xqt (xqt HB3.out hgf.out 0 _) hgf.out 1 _).drew;clear c6 c7 y6 y7 z0 z1 f0 f1 x0 x1;go_wp2_with fail
    refine bodyPost_ret (xjf rfl _ _ _ 29 (xzw E P) (0, 0) _ (.slice none 0 0) rfl rfl HR.out Tryz.underlying29 rfl sizeF) rfl ?_;exact ⟨none, 0, 0, rfl, TreR.nil _ (Nat.zero_le _), HBf.out⟩
 | cons tz rz =>
  have hlf : Hid (decide (0 < t0.l.length) = true) := by show _ = _; rw [hl]; simp
  have hfr : Hid (frmS (xjd a b c d) s.size ((xjd a b c d).deep + 2) (yqn (xjd a b c d) (bytesOf s)) = yqc s.size t0) := by show _ = _; unfold frmS; rw [HT1.out, if_neg (by rw [hl]; simp)]
  clear hl;go_wp2_with fail
  have hmo := xwl H3.out;rw [hlf.out] at hmo;refine hmo.mono ?_;clear hmo;rintro e wY ⟨rfl, rfl⟩;go_wp2_with fail
  refine (yq9 H3.out).mono ?_;rintro e w4 ⟨rfl, h4, hg⟩;have H4 := hid h4;have HO4 := hid (HO.out.x.over (RdW.size H3.out).choose_spec.choose_spec.choose_spec.choose_spec.choose_spec.choose_spec yju hg);have HB4 := hid (yvo HB3.out hg hqw.out);have HZ4 := hid (HZ3.out.grown hg (fun e => hqf.out (by injection e)));clear h4 hg H3 HB3 HZ3 HO;by_cases hE : E = 0
  · subst hE;obtain ⟨k1, rfl, k3⟩ := Hall.out.1 rfl;have hE0 : Hid ((yqc s.size t0).E = 0) := by show _ = _; rw [← hfr.out]; exact k3
    have htt : Hid (tsx = ts) := by show _ = _; rw [Hts.out (E_fail (show (yqc s.size t0).E = 0 from hE0.out))]; exact k1
    clear k1 k3;go_wp2_with fail
    have hfa := xv2 H4.out;rw [hE0.out] at hfa;refine hfa.mono ?_;clear hfa;rintro e wZ ⟨rfl, rfl⟩;have HRf := hid (RowA.fill HZ4.out (V' := xzw 0 0));have hgz := ywo wZ gf (xzw 0 0);have HBf := hid (xqv HB4.out hgf.out (xzw 0 0))
    skip
    have HTr : Hid (TreR (wZ.setRow gf (xzw 0 0)) C m dd ts) := by
     have h := HO4.out.over HZ4.out (by decide) hgz;rw [htt.out] at h;exact h.tree
    clear hgz;go_wp2_with (refine xqi (by rfl) _ _ _ (by rfl) _ (by rfl) _ (by rfl) _ _ (by assumption) (hid (fitsF 0 0)) ?_);refine bodyPost_ret (xjf rfl _ _ _ 29 (xzw 0 0) (0, 0) _ (.slice C m dd) rfl rfl HRf.out Tryz.underlying29 rfl sizeF) rfl ?_;exact ⟨_, _, _, rfl, HTr.out, HBf.out⟩
  · obtain ⟨rfl, k2, k3⟩ := Hall.out.2 hE;have hEP : Hid ((yqc s.size t0).E = E ∧ (yqc s.size t0).P = P) := by show _ ∧ _; rw [← hfr.out]; exact ⟨k2, k3⟩
    have hfE : Hid ((!decide ((yqc s.size t0).E = 0)) = true) := by show _ = _; rw [hEP.out.1, decide_eq_false hE]; rfl
    clear k2 k3 hE;go_wp2_with fail
    have hfa := xv2 H4.out;rw [hfE.out] at hfa;refine hfa.mono ?_;clear hfa;rintro e wZ ⟨rfl, rfl⟩;generalize wZ = w14 at *;obtain ⟨A8, n8, c8, C8, m8, d8, r8⟩ := H4.out.size;rw [hEP.out.1, hEP.out.2] at r8;have c6 := r8.cell (k := 6) (v := .int .i64 E) rfl;have c7 := r8.cell (k := 7) (v := .int .i64 P) rfl;have y6 := r8.drew.cell (k := 6) (v := .int .i64 E) rfl;have y7 := r8.drew.cell (k := 7) (v := .int .i64 P) rfl;have z0 := HZ4.out.cell (k := 0) (v := .int .i64 0) rfl;have z1 := HZ4.out.cell (k := 1) (v := .int .i64 0) rfl;have f0 := HZ4.out.free 0;have f1 := HZ4.out.free 1;have x0 := HZ4.out.drew.cell (k := 0) (v := .int .i64 0) rfl;have x1 := HZ4.out.drew.cell (k := 1) (v := .int .i64 0) rfl;clear r8;go_wp2_with fail
    go_region
    have HR : Hid (RowA ((w14.setCell ⟨gf, 0, none⟩ (.int .i64 E)).setCell ⟨gf, 1, none⟩ (.int .i64 P)).drew gf 29 (xzw E P)) := (((HZ4.out.set 0 (.int .i64 E)).set 1 (.int .i64 P)).drew :);have HBf : Hid (Below w.heap.size w ((w14.setCell ⟨gf, 0, none⟩ (.int .i64 E)).setCell ⟨gf, 1, none⟩ (.int .i64 P)).drew) := (xqt (xqt HB4.out hgf.out 0 _) hgf.out 1 _).drew;clear c6 c7 y6 y7 z0 z1 f0 f1 x0 x1;go_wp2_with fail
    refine bodyPost_ret (xjf rfl _ _ _ 29 (xzw E P) (0, 0) _ (.slice none 0 0) rfl rfl HR.out Tryz.underlying29 rfl sizeF) rfl ?_;exact ⟨none, 0, 0, rfl, TreR.nil _ (Nat.zero_le _), HBf.out⟩
theorem pDecl_x {w : World} {B q en : Nat} {L : Lim} {st : St} (h : RdW w B q en L st) (hB : B ≤ w.heap.size) (hL : L.Fit) {K : Nat} (i : Nat) (hfu : Fu L K (nilS (xqo en i st))) :
 Calls Tryz.prog 38 #[.pointer (some ⟨q, 0, none⟩), .int .i64 (i : Int)] w fun x w' => ∃ (y : DS) (B2 : Nat), x = .returned (.agg (dcV y)) ∧ OwnX w' y.A y.n y.c y.d.tr ∧ ((yqj L en K i st).E = 0 → y.d = zjg L en K i st) ∧ RdW w' B2 q en L (yqj L en K i st) ∧ B2 ≤ w'.heap.size ∧ w.grownBy w' (some q) :=
 (pDecl_c h hB hL i hfu).mono fun x w' k => by
   obtain ⟨A, n, c, ts, pl, B2, k1, k2, k3, k4, k5, k6⟩ := k;refine ⟨_, B2, k1, k2, fun e => ?_, k4, k5, k6⟩;obtain ⟨e1, e2⟩ := k3 e;dsimp only;rw [e1, e2]
theorem pDecl_y {w : World} {B q en : Nat} {L : Lim} {st : St} (h : RdW w B q en L st) (hB : B ≤ w.heap.size) (hL : L.Fit) {K : Nat} (i : Nat) (hfu : Fu L K (nilS (xqo en i st))) :
 Calls Tryz.prog 38 #[.pointer (some ⟨q, 0, none⟩), .int .i64 (i : Int)] w fun x w' => ∃ (kk : Int) (nm ot nu va un : ByteArray) (Ay : Option Addr) (ny cy : Nat) (pl ap : Int) (y : DS) (B2 : Nat), x = .returned (.agg (dcC kk nm ot nu va un Ay ny cy pl ap)) ∧ Hid (dcV y = dcC kk nm ot nu va un Ay ny cy pl ap) ∧ OwnX w' y.A y.n y.c y.d.tr ∧ ((yqj L en K i st).E = 0 → y.d = zjg L en K i st) ∧ RdW w' B2 q en L (yqj L en K i st) ∧ B2 ≤ w'.heap.size ∧ w.grownBy w' (some q) :=
 (pDecl_x h hB hL i hfu).mono fun x w' k => by
   obtain ⟨y, B2, k1, k2, k3, k4, k5, k6⟩ := k;exact ⟨_, _, _, _, _, _, _, _, _, _, _, y, B2, k1, rfl, k2, k3, k4, k5, k6⟩
theorem RdW.own {w w' : World} {B q en n c : Nat} {L : Lim} {st : St} {A : Option Addr} {xs : List DS} (h : RdW w B q en L st) (ho : OwnD w (q + 1) A n c xs) (hg : w.grownBy w' (Value.ownBlock (.slice A n c))) : RdW w' B q en L st := by
 cases e : Value.ownBlock (.slice A n c) with
 | none =>
  rw [e] at hg;exact h.below ⟨hg.os, hg.tape, hg.output, hg.size, fun i hi => hg.block i hi (fun e => by cases e)⟩
 | some g =>
  obtain ⟨V, hr⟩ := ho.rowA e;have hlt := (ho.2.lt g e).1;rw [e] at hg;exact h.oth hr (by decide) (by decide) (by omega) hg
theorem OwnD.q {w w' : World} {B B0 q en n c : Nat} {L : Lim} {st : St} {A : Option Addr} {xs : List DS} (ho : OwnD w B0 A n c xs) (h : RdW w B q en L st) (hg : w.grownBy w' (some q)) : OwnD w' B0 A n c xs := by
 obtain ⟨_, _, _, _, _, _, hr⟩ := h.size;exact ⟨ho.1, ho.2.over hg fun g e => by cases e; exact ho.2.differ hr (by decide)⟩
set_option maxRecDepth 100000 in
theorem zqq (s : ByteArray) (hs : s.size ≤ 1000000000) (a b c d : Int) (w : World) (T : PTab w) (ds : List Dc) (E P : Int) (hR : scrV (xjd a b c d) (bytesOf s) = (ds, E, P)) :
 Calls Tryz.prog 11 #[.string s, .agg #[.int .i64 a, .int .i64 b, .int .i64 c, .int .i64 d]] w fun e w' => ∃ A n c, e = .returned (.tuple #[.slice A n c, .agg (xzw E P)]) ∧ DcR w' A n c ds ∧ Below w.heap.size w w' := by
 have HT0 := hid T;have b1 := xqc w (.cells #[.int .i64 a, .int .i64 b, .int .i64 c, .int .i64 d] 23);have b2 := xqc (w.alloc (.cells #[.int .i64 a, .int .i64 b, .int .i64 c, .int .i64 d] 23)) (.cells (xzw 0 0) 29);have b12 := xqa b1 b2;have hZ := xqd (w.alloc (.cells #[.int .i64 a, .int .i64 b, .int .i64 c, .int .i64 d] 23)) 29 (xzw 0 0);have hLm := (xqd w 23 #[.int .i64 a, .int .i64 b, .int .i64 c, .int .i64 d]).below b2;have HI := hid hLm.inV;have HM : Hid (xq7 Tryz.prog 23 (#[.int .i64 a, .int .i64 b, .int .i64 c, .int .i64 d] : Array Value).size) := ⟨sizeLm, _, Tryz.underlying23, rfl⟩;have HZ := hid hZ;have HB := hid b12;have HT := hid (T.below b12);have hgf : Hid (w.heap.size ≤ (w.alloc (.cells #[.int .i64 a, .int .i64 b, .int .i64 c, .int .i64 d] 23)).heap.size) := b1.size;have hfw : Hid ((w.alloc (.cells #[.int .i64 a, .int .i64 b, .int .i64 c, .int .i64 d] 23)).heap.size < ((w.alloc (.cells #[.int .i64 a, .int .i64 b, .int .i64 c, .int .i64 d] 23)).alloc (.cells (xzw 0 0) 29)).heap.size) := hZ.lt;clear b1 b2 b12 hZ hLm T;go_enter Tryz.func11, Tryz.ntmps11;go_wp2_with (refine xqf (by rfl) _ _ (by rfl) _ _ (by rfl) _ (by assumption) (by assumption) ?_);have esz : (w.alloc (.cells #[.int .i64 a, .int .i64 b, .int .i64 c, .int .i64 d] 23)).heap.size = w.heap.size + 1 := by simp
 rw [esz] at HZ hgf hfw;clear esz;obtain ⟨gf, hgf2⟩ : ∃ g, g = w.heap.size + 1 := ⟨_, rfl⟩;rw [← hgf2] at HZ hgf hfw ⊢;clear hgf2;generalize (w.alloc (.cells #[.int .i64 a, .int .i64 b, .int .i64 c, .int .i64 d] 23)).alloc (.cells (xzw 0 0) 29) = w1 at *;clear HI HM;refine (pNew_c s hs a b c d w1 HT.out).mono ?_;rintro e w2 ⟨q, rfl, hq, B, h2, hB, bn⟩;have HB2 := hid (xqa HB.out bn);have HZ2 := hid (HZ.out.below bn);have H2 := hid h2;have Hb := hid hB;have hqf : Hid (q ≠ gf) := by show _ ≠ _; have := hfw.out; omega
 have hqw : Hid (w.heap.size ≤ q) := Nat.le_trans (Nat.le_trans hgf.out (Nat.le_of_lt hfw.out)) hq;clear hq h2 hB bn HZ HB HT hfw;have hL := cutL_fit a b c d;have HL := hid hL;have hen := xqe s;have Hen := hid hen;clear hL hen;have hall := scr_all (K := ((xjd a b c d).deep + 2)) HL.out (Nat.le_refl _) (ini_len (xjd a b c d) HL.out (bytesOf s)) hR;rw [Hen.out] at hall;obtain ⟨dsT, F, hF⟩ : ∃ x F, scrS (xjd a b c d) s.size ((xjd a b c d).deep + 2) 4000 0 (yqn (xjd a b c d) (bytesOf s)) = (x, F) := ⟨_, _, rfl⟩;rw [hF] at hall;have Hall := hid hall;have HF := hid hF;clear hall hR hF;have hS0 : Hid ((yqn (xjd a b c d) (bytesOf s)).l.length ≤ 4000 ∧ ((yqn (xjd a b c d) (bytesOf s)).E = 0 → (yqn (xjd a b c d) (bytesOf s)).mad ≤ (xjd a b c d).nodes ∧ (yqn (xjd a b c d) (bytesOf s)).op = 0)) := ⟨ini_len (xjd a b c d) HL.out _, fun _ => ⟨by rw [(iniS_op (xjd a b c d) (bytesOf s)).2.1]; exact Nat.zero_le _, (iniS_op (xjd a b c d) (bytesOf s)).1⟩⟩;generalize (yqn (xjd a b c d) (bytesOf s)) = st0 at *;go_wp2
 go_loopw [7] (fun sl wr => ∃ (n c0 : Nat) (A : Option Addr) (xs : List DS) (st : St) (g B : Nat) (dn rs : List Dc), sl = .slice A n c0 ∧ Hid (OwnD wr (q + 1) A n c0 xs) ∧ Hid (DsO wr xs) ∧ Hid (RdW wr B q s.size (xjd a b c d) st) ∧ Hid (B ≤ wr.heap.size) ∧ Hid (Below w.heap.size w wr) ∧ Hid (RowA wr gf 29 (xzw 0 0)) ∧ Hid (st.l.length ≤ g ∧ scrS (xjd a b c d) s.size ((xjd a b c d).deep + 2) g n st = (rs, F) ∧ dsT = dn ++ rs ∧ dn.length = n ∧ (st.E = 0 → xs.map DS.d = dn) ∧ (st.E = 0 → st.mad ≤ (xjd a b c d).nodes ∧ st.op = 0) ∧ n + st.l.length ≤ 4000)) (fun _ wr => tlen q wr)
 case atStart => exact ⟨0, 0, none, [], st0, 4000, B, [], dsT, rfl, ⟨rfl, OwnR.nil _ _ _ _⟩, fun x hx => (by cases hx), H2, Hb, HB2, HZ2, ⟨hS0.out.1, HF.out, rfl, rfl, fun _ => rfl, hS0.out.2, by have := hS0.out.1; omega⟩⟩
 case round =>
  clear H2 Hb HB2 HZ2 hS0 HF;obtain ⟨n, c0, A, xs, st, g, B, dn, rs, rfl, HO, HD, H3, HBb, HB3, HZ3, HI⟩ := hrel;cases hl : st.l with
  | nil =>
   have hlf : Hid (decide (0 < st.l.length) = false) := by show _ = _; rw [hl]; rfl
   have hsr : rs = [] ∧ F = st := by
    have h := HI.out.2.1;rw [yjm _ _ _ _ _ hl] at h;injection h with h1 h2
    exact ⟨h1.symm, h2.symm⟩
   obtain ⟨hrs, hFs⟩ := hsr;have HFs := hid hFs;have hdT : Hid (dsT = dn) := by show _ = _; rw [HI.out.2.2.1, hrs, List.append_nil]
   clear hl hrs hFs;go_wp2_with fail
   have hmo := xwl H3.out;rw [hlf.out] at hmo;refine hmo.mono ?_;clear hmo;rintro e wY ⟨rfl, rfl⟩;by_cases hE : E = 0
   · subst hE;obtain ⟨k1, rfl, k3⟩ := Hall.out.1 rfl;have hE0 : Hid (st.E = 0) := by show _ = _; rw [← HFs.out]; exact k3
     have hmap : Hid (xs.map DS.d = ds) := by show _ = _; rw [HI.out.2.2.2.2.1 hE0.out, ← hdT.out]; exact k1
     clear k1 k3;go_wp2_with fail
     have hfa := xv2 H3.out;rw [hE0.out] at hfa;refine hfa.mono ?_;clear hfa;rintro e wZ ⟨rfl, rfl⟩;have HRf := hid (RowA.fill HZ3.out (V' := xzw 0 0));have hgz := ywo wZ gf (xzw 0 0);have HBf := hid (xqv HB3.out hgf.out (xzw 0 0))
     skip
     have HTr : Hid (DcR (wZ.setRow gf (xzw 0 0)) A n c0 ds) := by
      have h1 : OwnD (wZ.setRow gf (xzw 0 0)) (q + 1) A n c0 xs := ⟨HO.out.1, HO.out.2.over hgz (fun k e => by cases e; exact HO.out.2.differ HZ3.out (by decide))⟩;have h2 : DsO (wZ.setRow gf (xzw 0 0)) xs := HD.out.over HZ3.out (by decide) hgz;have h := h1.row h2.dsr;rw [hmap.out] at h;exact h
     clear hgz;go_wp2_with (refine xqi (by rfl) _ _ _ (by rfl) _ (by rfl) _ (by rfl) _ _ (by assumption) (hid (fitsF 0 0)) ?_);refine bodyPost_ret (xjf rfl _ _ _ 29 (xzw 0 0) (0, 0) _ (.slice A n c0) rfl rfl HRf.out Tryz.underlying29 rfl sizeF) rfl ?_;exact ⟨_, _, _, rfl, HTr.out, HBf.out⟩
   · obtain ⟨rfl, k2, k3⟩ := Hall.out.2 hE;have hEP : Hid (st.E = E ∧ st.P = P) := by show _ ∧ _; rw [← HFs.out]; exact ⟨k2, k3⟩
     have hfE : Hid ((!decide (st.E = 0)) = true) := by show _ = _; rw [hEP.out.1, decide_eq_false hE]; rfl
     clear k2 k3 hE;go_wp2_with fail
     have hfa := xv2 H3.out;rw [hfE.out] at hfa;refine hfa.mono ?_;clear hfa;rintro e w13 ⟨rfl, rfl⟩;obtain ⟨A8, n8, c8, C8, m8, d8, r8⟩ := H3.out.size;rw [hEP.out.1, hEP.out.2] at r8;have c6 := r8.cell (k := 6) (v := .int .i64 E) rfl;have c7 := r8.cell (k := 7) (v := .int .i64 P) rfl;have y6 := r8.drew.cell (k := 6) (v := .int .i64 E) rfl;have y7 := r8.drew.cell (k := 7) (v := .int .i64 P) rfl;have z0 := HZ3.out.cell (k := 0) (v := .int .i64 0) rfl;have z1 := HZ3.out.cell (k := 1) (v := .int .i64 0) rfl;have f0 := HZ3.out.free 0;have f1 := HZ3.out.free 1;have x0 := HZ3.out.drew.cell (k := 0) (v := .int .i64 0) rfl;have x1 := HZ3.out.drew.cell (k := 1) (v := .int .i64 0) rfl;clear r8;go_wp2_with fail
     go_region
     have HR : Hid (RowA ((w13.setCell ⟨gf, 0, none⟩ (.int .i64 E)).setCell ⟨gf, 1, none⟩ (.int .i64 P)).drew gf 29 (xzw E P)) := (((HZ3.out.set 0 (.int .i64 E)).set 1 (.int .i64 P)).drew :);have HBf : Hid (Below w.heap.size w ((w13.setCell ⟨gf, 0, none⟩ (.int .i64 E)).setCell ⟨gf, 1, none⟩ (.int .i64 P)).drew) := (xqt (xqt HB3.out hgf.out 0 _) hgf.out 1 _).drew;clear c6 c7 y6 y7 z0 z1 f0 f1 x0 x1;go_wp2_with fail
     refine bodyPost_ret (xjf rfl _ _ _ 29 (xzw E P) (0, 0) _ (.slice none 0 0) rfl rfl HR.out Tryz.underlying29 rfl sizeF) rfl ?_;exact ⟨none, 0, 0, rfl, DcR.nil _ (Nat.zero_le _), HBf.out⟩
  | cons tz rz =>
   have Hne : Hid (st.l ≠ []) := by show _ ≠ _; rw [hl]; simp
   have hlf : Hid (decide (0 < st.l.length) = true) := by show _ = _; rw [hl]; simp
   have hE0 : Hid (st.E = 0) := by show _ = _; exact Classical.byContradiction fun h => Hne.out (H3.out.inv h)
   clear hl;obtain ⟨i1, i2, i3, i4, i5, i6, i7⟩ := HI.out;have hfu : Hid (Fu (xjd a b c d) ((xjd a b c d).deep + 2) (nilS (xqo s.size n st))) := dec4_fu HL.out (Nat.le_refl _) (i6 hE0.out).2 (Nat.le_trans (i6 hE0.out).1 HL.out.1) (by omega);have hn6 : Hid (n ≤ 1000000) := by show _ ≤ _; omega
   have hncap := HO.out.2.caps;have hn0 : (n : Int) ≤ 4000 := by omega
   clear i1 i2 i3 i4 i5 i6 i7;go_wp2_with fail
   have hmo := xwl H3.out;rw [hlf.out] at hmo;refine hmo.mono ?_;clear hmo;rintro e wY ⟨rfl, rfl⟩;go_wp2_with fail
   refine (pDecl_y H3.out HBb.out HL.out n hfu.out).mono ?_;rintro e w4 ⟨kk, nm, ot, nu, va, un, Ay, ny, cy, pl, ap, y, B4, rfl, hyV, hT, hy, h4, hB4, hg⟩;have HO4 := HO.out.q H3.out hg;have HD4 := HD.out.over (RdW.size H3.out).choose_spec.choose_spec.choose_spec.choose_spec.choose_spec.choose_spec yju hg;have HZ4 := HZ3.out.grown hg (fun e => hqf.out (by injection e));have HB4 := yvo HB3.out hg hqw.out;have b5 := xqc w4 (.cells (dcC kk nm ot nu va un Ay ny cy pl ap) 62);have HOo : Hid (OwnR (w4.alloc (.cells (dcC kk nm ot nu va un Ay ny cy pl ap) 62)) (q + 1) 62 9 A n c0 (xzq xs)) := (HO4.below b5).2;have HOd : Hid (OwnD (w4.alloc (.cells (dcC kk nm ot nu va un Ay ny cy pl ap) 62)) (q + 1) A n c0 xs) := HO4.below b5;have HD5 := hid (HD4.below b5);have HT5 := hid (hT.below b5);have HZ5 := hid (HZ4.below b5);have H5 := hid (h4.below b5);have HB5 := hid (xqa HB4 b5);have hb5 : Hid (B4 ≤ (w4.alloc (.cells (dcC kk nm ot nu va un Ay ny cy pl ap) 62)).heap.size) := Nat.le_trans hB4 b5.size;have HLx : Hid (RowA (w4.alloc (.cells (dcC kk nm ot nu va un Ay ny cy pl ap) 62)) w4.heap.size 62 (dcC kk nm ot nu va un Ay ny cy pl ap) ∧ (dcC kk nm ot nu va un Ay ny cy pl ap).size = 9 ∧ ∀ v ∈ (dcC kk nm ot nu va un Ay ny cy pl ap), v.oneCell' = true) := ⟨xqd _ _ _, rfl, by simp [Value.oneCell']⟩;have HEx : Hid (n ≤ 1000000 ∧ q + 1 ≤ (w4.alloc (.cells (dcC kk nm ot nu va un Ay ny cy pl ap) 62)).heap.size) := ⟨hn6.out, H5.out.lt⟩;have Hy := hid hy
   clear hT hy h4 hB4 hg HO4 HD4 HZ4 HB4 b5
   skip
   have HI0 := HI;go_wp2_with (at_builtin; refine xvr rfl _ _ 26 rfl (q + 1) 62 9 dcs_elem A n c0 (xzq xs) (by rfl) HOo w4.heap.size (by rfl) 62 (dcC kk nm ot nu va un Ay ny cy pl ap) HLx HEx ?_);intro A6 c6 w6 hO6 hg6;have HO6 : Hid (OwnD w6 (q + 1) A6 (n + 1) c6 (xs ++ [y])) := by
    refine ⟨by rw [List.length_append, ← HOd.out.1]; rfl, ?_⟩;rw [ywr, hyV.out];exact hO6.out
   have HD6 : Hid (DsO w6 (xs ++ [y])) := (HD5.out.grown HOd.out hg6.out).snoc (HT5.out.grown HOd.out hg6.out);have H6 := hid (H5.out.own HOd.out hg6.out);have hb6 : Hid (B4 ≤ w6.heap.size) := Nat.le_trans hb5.out hg6.out.size;have HB6 : Hid (Below w.heap.size w w6) := HB5.out.grown hg6.out HB5.out.size fun k hk => by have h9 := HOd.out.2.lt k hk; have := hqw.out; omega
   have HZ6 : Hid (RowA w6 gf 29 (xzw 0 0)) := HZ5.out.grown hg6.out (HOd.out.2.differ HZ5.out (by decide));have hdl := dec_len (xjd a b c d) s.size ((xjd a b c d).deep + 2) n Hne.out;obtain ⟨i1, i2, i3, i4, i5, i6, i7⟩ := HI.out;obtain ⟨g, rfl⟩ : ∃ m, g = m + 1 := ⟨g - 1, by have := List.length_pos_iff.2 Hne.out; omega⟩;have hsc : scrS (xjd a b c d) s.size ((xjd a b c d).deep + 2) (g + 1) n st = (zjg (xjd a b c d) s.size ((xjd a b c d).deep + 2) n st :: (scrS (xjd a b c d) s.size ((xjd a b c d).deep + 2) g (n + 1) (yqj (xjd a b c d) s.size ((xjd a b c d).deep + 2) n st)).1, (scrS (xjd a b c d) s.size ((xjd a b c d).deep + 2) g (n + 1) (yqj (xjd a b c d) s.size ((xjd a b c d).deep + 2) n st)).2) := by
    show (if st.l = [] then _ else _) = _;rw [if_neg Hne.out]
   rw [hsc] at i2;injection i2 with i2a i2b
   have hki := dec_ki (L := (xjd a b c d)) (en := s.size) (K := ((xjd a b c d).deep + 2)) (i := n) hE0.out (i6 hE0.out).1 (i6 hE0.out).2 Hne.out (Nat.le_refl _);have HI6 : Hid ((yqj (xjd a b c d) s.size ((xjd a b c d).deep + 2) n st).l.length ≤ g ∧ scrS (xjd a b c d) s.size ((xjd a b c d).deep + 2) g (n + 1) (yqj (xjd a b c d) s.size ((xjd a b c d).deep + 2) n st) = ((scrS (xjd a b c d) s.size ((xjd a b c d).deep + 2) g (n + 1) (yqj (xjd a b c d) s.size ((xjd a b c d).deep + 2) n st)).1, F) ∧ dsT = (dn ++ [zjg (xjd a b c d) s.size ((xjd a b c d).deep + 2) n st]) ++ (scrS (xjd a b c d) s.size ((xjd a b c d).deep + 2) g (n + 1) (yqj (xjd a b c d) s.size ((xjd a b c d).deep + 2) n st)).1 ∧ (dn ++ [zjg (xjd a b c d) s.size ((xjd a b c d).deep + 2) n st]).length = n + 1 ∧ ((yqj (xjd a b c d) s.size ((xjd a b c d).deep + 2) n st).E = 0 → (xs ++ [y]).map DS.d = dn ++ [zjg (xjd a b c d) s.size ((xjd a b c d).deep + 2) n st]) ∧ ((yqj (xjd a b c d) s.size ((xjd a b c d).deep + 2) n st).E = 0 → (yqj (xjd a b c d) s.size ((xjd a b c d).deep + 2) n st).mad ≤ (xjd a b c d).nodes ∧ (yqj (xjd a b c d) s.size ((xjd a b c d).deep + 2) n st).op = 0) ∧ n + 1 + (yqj (xjd a b c d) s.size ((xjd a b c d).deep + 2) n st).l.length ≤ 4000) := by
    refine ⟨by omega, ?_, ?_, ?_, fun e => ?_, fun e => ?_, by omega⟩
    · rw [← i2b]
    · rw [i3, ← i2a, List.append_assoc]; rfl
    · rw [List.length_append, i4]; rfl
    · rw [List.map_append, i5 hE0.out, List.map_cons, List.map_nil, Hy.out e]
    · unfold Ki at hki;cases e2 : xw8 (xjd a b c d) s.size n st.l st.mad with
      | ok d l m => rw [e2] at hki; exact ⟨by rw [hki.2.2.1]; exact hki.2.2.2.2.1, hki.2.2.2.1⟩
      | bad p r => rw [e2] at hki; exact absurd (hki.E.symm.trans e) hki.ne
   have HME : Hid (tlen q w6 < tlen q wY) := by show _ < _; rw [xw4 H6.out, xw4 H3.out]; exact hdl
   clear hO6 hg6 HOo HOd HD5 HT5 HZ5 H5 HB5 hb5 HLx HEx Hy hdl i1 i2a i2b i3 i4 i5 i6 i7 hsc hki HI0 hncap hn0;go_wp2
   go_roundw
   case rel => exact ⟨n + 1, c6, A6, _, _, g, B4, _, _, rfl, HO6, HD6, H6, hb6, HB6, HZ6, HI6⟩
   case measure => exact HME.out
end Go.Proofs.YtannifhcjcbkcaaGreatDoor
namespace Go.Proofs.YtannifhcjcbkcaaGreatDoor
open Go.RowKit Go.ChangeShapes Limb
open Lib (hid)
def wordsL : List (List UInt8) := [[], [117, 110, 105, 116], [115, 111, 117, 114, 99, 101], [99, 111, 118], [108, 101, 116], [111, 117, 116, 112, 117, 116]]
set_option maxRecDepth 100000 in
theorem xj1 {W : World} {name : String} {r : List (String × DataW Unit)} (h : laidMet Tryz.prog ((name, .agg (wordsL.map fun l => .lit (.string l))) :: r) W) (hg : Tryz.prog.globalNamed name = some 0) : WTab W := fun i hi => by
 obtain ⟨ps, ⟨g0, t0, cs0, f0, p0, q0, hg0, ht0, hv0, hd0, _, _⟩, _, _⟩ := h;obtain rfl := Option.some.inj (hg.symm.trans hg0);have ht : (Tryz.prog.globals[0]?).map (·.type) = some 141 := by kernel_rfl
 obtain rfl := Option.some.inj (ht.symm.trans ht0);obtain ⟨f1, d, q, hd, hel⟩ := Lib.array_elem Tryz.underlying141 hd0 i hi;have hc : Tryz.prog.cellsOf 9 = 1 := by kernel_rfl
 rw [hc, Nat.mul_one] at hel;obtain ⟨s, hs1, hs2, _⟩ := DataW.trod_string Tryz.underlying9 hel;have h2 := World.var?_cell hg0 hv0 i;rw [← Array.getElem?_toList] at h2;have h3 : cs0.toList[i]? = some (.string s) := by
  have h4 := congrArg (fun l : List Value => l[0]?) hs1;simp only [List.getElem?_take, List.getElem?_drop, Nat.add_zero] at h4
  simpa using h4
 rw [h2, h3];have h5 : d = .lit (.string s.data.toList) := congrArg Prod.fst hs2;subst h5;have h6 : s.data.toList = wordsL.getD i [] := by
  generalize wordsL = L at hd ⊢;rw [List.getElem?_map] at hd;cases hu : L[i]? with
  | none => rw [hu] at hd; cases hd
  | some l =>
   rw [hu] at hd;have hd2 : some (DataW.lit (.string l) : DataW Unit) = some (.lit (.string s.data.toList)) := hd;injection hd2 with hd2
   injection hd2 with hd2
   injection hd2 with hd2
   rw [List.getD_eq_getElem?_getD, hu]; exact hd2.symm
 have h7 : s = strOf (xjk i) := by
  have h8 : ∀ i, i < 6 → wordsL.getD i [] = (xjk i).map UInt8.ofNat := by decide
  rw [h8 i hi] at h6;obtain ⟨⟨l⟩⟩ := s;show ByteArray.mk ⟨l⟩ = ⟨((xjk i).map UInt8.ofNat).toArray⟩;have h9 : l = (xjk i).map UInt8.ofNat := h6;rw [h9]
 rw [h7]
theorem xzl {W : World} {name nm : String} {d : DataW Unit} {r : List (String × DataW Unit)} (h : laidMet Tryz.prog ((name, .iface nm d) :: r) W) (hg : Tryz.prog.globalNamed name = some 5) :
 ∃ te pe, W.cell? ⟨5, 0, none⟩ = some (.iface te pe) := by
 obtain ⟨ps, ⟨g0, t0, cs0, f0, p0, q0, hg0, ht0, hv0, hd0, _, _⟩, _, _⟩ := h;obtain rfl := Option.some.inj (hg.symm.trans hg0);have ht : (Tryz.prog.globals[5]?).map (·.type) = some 96 := by kernel_rfl
 obtain rfl := Option.some.inj (ht.symm.trans ht0);obtain ⟨_, u, v, hcs, _⟩ := iface_of_trod Tryz.underlying96 hd0;have h2 := World.var?_cell hg0 hv0 0;rw [← Array.getElem?_toList, hcs] at h2;exact ⟨u, v, by simpa using h2⟩
theorem xzm {W : World} {name nm : String} {d : DataW Unit} {r : List (String × DataW Unit)} (h : laidMet Tryz.prog ((name, .iface nm d) :: r) W) (hg : Tryz.prog.globalNamed name = some 6) :
 ∃ te pe, W.cell? ⟨6, 0, none⟩ = some (.iface te pe) := by
 obtain ⟨ps, ⟨g0, t0, cs0, f0, p0, q0, hg0, ht0, hv0, hd0, _, _⟩, _, _⟩ := h;obtain rfl := Option.some.inj (hg.symm.trans hg0);have ht : (Tryz.prog.globals[6]?).map (·.type) = some 96 := by kernel_rfl
 obtain rfl := Option.some.inj (ht.symm.trans ht0);obtain ⟨_, u, v, hcs, _⟩ := iface_of_trod Tryz.underlying96 hd0;have h2 := World.var?_cell hg0 hv0 0;rw [← Array.getElem?_toList, hcs] at h2;exact ⟨u, v, by simpa using h2⟩
end Go.Proofs.YtannifhcjcbkcaaGreatDoor
namespace Go.Proofs.YtannifhcjcbkcaaGreatDoor
open Go.RowKit Limb
open Lib (hid)
def u8C (l : List Nat) : List Value := l.map fun x : Nat => Value.int .u8 (x : Int)
theorem u8C_app (a b : List Nat) : u8C (a ++ b) = u8C a ++ u8C b := by unfold u8C; rw [List.map_append]
theorem zqk (s : ByteArray) : Lib.strCells s = u8C (bytesOf s) := by
 unfold Lib.strCells u8C bytesOf;rw [List.map_map]; rfl
theorem yws {l : List Nat} (h : Bytes l) : Lib.byteCells (l.map UInt8.ofNat) = u8C l := by
 unfold Lib.byteCells u8C;rw [List.map_map];refine List.map_congr_left fun x hx => ?_
 have := h x hx;show Value.int .u8 ((UInt8.ofNat x).toNat : Int) = _;rw [UInt8.toNat_ofNat', Nat.mod_eq_of_lt (by omega)]
structure BuI (w : World) (B q : Nat) (T : TypeId) (pre : List Value) (p : Value) (A : Option Addr) (n c : Nat) (l : List Nat) : Prop where
 low : B ≤ q
 row : RowA w q T (pre ++ [p, .slice A n c]).toArray
 len : n = l.length
 own : OwnR w B 5 1 A n c (u8C l)
 ne : T ≠ 5
theorem BuI.below {w w' : World} {B q n c : Nat} {T : TypeId} {pre : List Value} {p : Value} {A : Option Addr} {l : List Nat} (h : BuI w B q T pre p A n c l) (hb : Below w.heap.size w w') : BuI w' B q T pre p A n c l :=
 ⟨h.low, h.row.below hb, h.len, h.own.below hb, h.ne⟩
theorem BuI.lt {w : World} {B q n c : Nat} {T : TypeId} {pre : List Value} {p : Value} {A : Option Addr} {l : List Nat} (h : BuI w B q T pre p A n c l) : q < w.heap.size := h.row.lt
theorem BuI.apart {w : World} {B q n c : Nat} {T : TypeId} {pre : List Value} {p : Value} {A : Option Addr} {l : List Nat} (h : BuI w B q T pre p A n c l) : Value.ownBlock (.slice A n c) ≠ some q :=
 Lib.ownBlock_ne h.own h.row h.ne
theorem BuI.cellA {w : World} {B q n c : Nat} {T : TypeId} {pre : List Value} {p : Value} {A : Option Addr} {l : List Nat} (h : BuI w B q T pre p A n c l) {k : Nat} (hk : k = pre.length) : w.cell? ⟨q, k, none⟩ = some p := by
 subst hk;exact h.row.cell (by simp)
theorem BuI.cellB {w : World} {B q n c : Nat} {T : TypeId} {pre : List Value} {p : Value} {A : Option Addr} {l : List Nat} (h : BuI w B q T pre p A n c l) {k : Nat} (hk : k = pre.length + 1) : w.cell? ⟨q, k, none⟩ = some (.slice A n c) := by
 subst hk;exact h.row.cell (by simp)
theorem BuI.shape {w : World} {B q n c : Nat} {T : TypeId} {pre : List Value} {p : Value} {A : Option Addr} {l : List Nat} (h : BuI w B q T pre p A n c l) {k : Nat} (hk : k = pre.length + 2) : w.shape? q = some (T, k) := by
 subst hk;have h1 : w.heap[q]? = some (.cells (pre ++ [p, .slice A n c]).toArray T (0, 0)) := h.row;simp [World.shape?, h1]
theorem BuI.used {w : World} {B q n c : Nat} {T : TypeId} {pre : List Value} {p : Value} {A : Option Addr} {l : List Nat} (h : BuI w B q T pre p A n c l) {k : Nat} (hk : k = pre.length) (p' : Value) : BuI (w.setCell ⟨q, k, none⟩ p') B q T pre p' A n c l := by
 subst hk;refine ⟨h.low, ?_, h.len, ?_, h.ne⟩
 · have h1 := h.row.set pre.length p';have e : (pre ++ [p, .slice A n c]).toArray.setIfInBounds pre.length p' = (pre ++ [p', .slice A n c]).toArray := by
    apply Array.ext'
    simp
   rw [e] at h1;exact h1
 · exact World.ownsRow.kept (row := some q) h.own ⟨rfl, rfl, rfl, by simp [World.setCell], fun k _ hk => Below.heap_setCell _ _ _ _ (fun e => hk (by simp [e]))⟩ (Or.inr h.apart)
theorem BuI.put {w w2 : World} {B q n c n' c' : Nat} {T : TypeId} {pre : List Value} {p : Value} {A A' : Option Addr} {l l' : List Nat} (h : BuI w B q T pre p A n c l) (hg : w.grownBy w2 (Value.ownBlock (.slice A n c))) (hn : n' = l'.length) (ho : OwnR w2 B 5 1 A' n' c' (u8C l')) {k : Nat} (hk : k = pre.length + 1) :
 BuI (w2.setCell ⟨q, k, none⟩ (.slice A' n' c')) B q T pre p A' n' c' l' := by
 subst hk;have hr : RowA w2 q T (pre ++ [p, .slice A n c]).toArray := h.row.grown hg h.apart;have hne : Value.ownBlock (.slice A' n' c') ≠ some q := Lib.ownBlock_ne ho hr h.ne;refine ⟨h.low, ?_, hn, ?_, h.ne⟩
 · have h1 := hr.set (pre.length + 1) (.slice A' n' c');have e : (pre ++ [p, .slice A n c]).toArray.setIfInBounds (pre.length + 1) (.slice A' n' c') = (pre ++ [p, .slice A' n' c']).toArray := by
    apply Array.ext'
    simp
   rw [e] at h1;exact h1
 · exact World.ownsRow.kept (row := some q) ho ⟨rfl, rfl, rfl, by simp [World.setCell], fun k _ hk => Below.heap_setCell _ _ _ _ (fun e => hk (by simp [e]))⟩ (Or.inr hne)
structure KnW (B q : Nat) (w w' : World) : Prop where
 os : w'.os = w.os
 tape : w'.tape = w.tape
 output : w'.output = w.output
 size : w.heap.size ≤ w'.heap.size
 block : ∀ i, i < w.heap.size → i ≠ q → (B ≤ i → ∀ V f, w.heap[i]? ≠ some (.cells V 5 f)) → w'.heap[i]? = w.heap[i]?
theorem KnW.refl (B q : Nat) (w : World) : KnW B q w w := ⟨rfl, rfl, rfl, Nat.le_refl _, fun _ _ _ _ => rfl⟩
theorem KnW.below {B q : Nat} {w w' : World} (h : Below w.heap.size w w') : KnW B q w w' := ⟨h.os, h.tape, h.output, h.size, fun i hi _ _ => h.block i hi⟩
theorem KnW.trans {B q : Nat} {a b c : World} (h : KnW B q a b) (k : KnW B q b c) : KnW B q a c :=
 ⟨k.os.trans h.os, k.tape.trans h.tape, k.output.trans h.output, Nat.le_trans h.size k.size, fun i hi hq hn => by
   have e := h.block i hi hq hn;rw [← e];refine k.block i (Nat.lt_of_lt_of_le hi h.size) hq fun hB V f => ?_
   rw [e]; exact hn hB V f⟩
theorem KnW.row {B q g : Nat} {w w' : World} {T : TypeId} {V : Array Value} (h : KnW B q w w') (hr : RowA w g T V) (hq : g ≠ q) (ht : T ≠ 5) : RowA w' g T V :=
 (h.block g hr.lt hq (fun _ U f e => by unfold RowA at hr; rw [hr] at e; injection e with e; injection e with _ e2; exact ht e2)).trans hr
theorem KnW.low {B q : Nat} {w w' : World} (h : KnW B q w w') (hq : B ≤ q) (hB : B ≤ w.heap.size) : Below B w w' :=
 ⟨h.os, h.tape, h.output, h.size, fun i hi => h.block i (by omega) (by omega) (fun hb => absurd hi (by omega))⟩
theorem KnW.set (B q : Nat) (w : World) (k : Nat) (v : Value) : KnW B q w (w.setCell ⟨q, k, none⟩ v) :=
 ⟨rfl, rfl, rfl, by simp [World.setCell], fun i _ hq _ => Below.heap_setCell _ _ _ _ hq⟩
theorem KnW.own {B q n c : Nat} {w w' : World} {A : Option Addr} {xs : List Value} (h : OwnR w B 5 1 A n c xs) (hg : w.grownBy w' (Value.ownBlock (.slice A n c))) : KnW B q w w' :=
 ⟨hg.os, hg.tape, hg.output, hg.size, fun i hi _ hn => hg.block i hi (fun e => by
   rcases h.2 with ⟨hv, _⟩ | ⟨g, cap, cur, hv, hB, hgg, _⟩
   · injection hv with hv1 _ _
     subst hv1;cases e
   · injection hv with hv1 hv2 hv3
     subst hv1;have e2 : i = g := by injection e
     subst e2
     exact hn hB cur (0, 0) hgg)⟩
theorem sizeBu : (Tryz.prog.info? 94).map (·.size) = some 2 := by kernel_rfl
theorem infoU8 : (Tryz.prog.info? 5).map (fun i => (i.zero, i.size, i.bytes)) = some (some (.int .u8 0), 1, 1) := by kernel_rfl
theorem cellsU8 : Tryz.prog.cellsOf 5 = 1 := by kernel_rfl
theorem lies_b : liesAt Tryz.prog Tryz.prog.depth 94 (2 / Tryz.prog.cellsOf 94) 0 94 1 = true := by kernel_rfl
def Bd_b (w : World) (B q : Nat) (l : List Nat) : Prop := ∃ p A n c, (p = .pointer none ∨ p = .pointer (some ⟨q, 0, none⟩)) ∧ BuI w B q 94 [] p A n c l
theorem Bd_b.below {w w' : World} {B q : Nat} {l : List Nat} (h : Bd_b w B q l) (hb : Below w.heap.size w w') : Bd_b w' B q l := by
 obtain ⟨p, A, n, c, h1, h2⟩ := h;exact ⟨p, A, n, c, h1, h2.below hb⟩
set_option maxRecDepth 100000 in
theorem copyCheck_b {w : World} {B q n c : Nat} {A : Option Addr} {p : Value} {l : List Nat} (h : BuI w B q 94 [] p A n c l) (hp : p = .pointer none ∨ p = .pointer (some ⟨q, 0, none⟩)) :
 Calls Tryz.prog 97 #[.pointer (some ⟨q, 0, none⟩)] w fun e w' => e = .returned (.tuple #[]) ∧ BuI w' B q 94 [] (.pointer (some ⟨q, 0, none⟩)) A n c l ∧ KnW B q w w' := by
 obtain ⟨j, hj, hjs⟩ := Option.map_eq_some_iff.1 sizeBu;have c0 := h.cellA (k := 0) rfl;have hfz : w.frozen? ⟨q, 0, none⟩ = false := h.row.free 0;have hsh := h.shape (k := 2) rfl;rcases hp with rfl | rfl
 · have HU := hid (h.used (k := 0) rfl (.pointer (some ⟨q, 0, none⟩)));clear h;go_enter Tryz.func97, Tryz.ntmps97;go_wp2
   rw [Lib.run_to_unsafe w ⟨q, 0, none⟩ Tryz.underlying91 Tryz.underlying155 hj (by rw [hjs]; decide) hsh (by show 0 < 2; decide)];simp only [Result.andThen];rw [Oper.upon_value];go_wp2
   rw [run_callFunc_extern Tryz.func128 (by kernel_rfl) (by kernel_rfl) (by kernel_rfl) (e := Extern.AbiNoEscape.same) (by kernel_rfl)];rw [Lib.run_noEscape];simp only [Result.andThen];rw [Oper.upon_value];go_wp2
   rw [Lib.run_from_unsafe w ⟨q, 0, none⟩ Tryz.underlying155 Tryz.underlying91 hj hsh lies_b];simp only [Result.andThen];rw [Oper.upon_value];go_wp2
   go_end0
   exact ⟨rfl, HU.out, KnW.set B q w 0 _⟩
 · have H := hid h;clear h;go_enter Tryz.func97, Tryz.ntmps97;go_wp2
   rw [Lib.run_neq_ptr_same w _ Tryz.underlying91 hj];go_wp2
   go_end0
   exact ⟨rfl, H.out, KnW.refl B q w⟩
set_option maxRecDepth 100000 in
theorem writeString_b {w : World} {B q : Nat} {l : List Nat} (h : Bd_b w B q l) (s : ByteArray) (hl : l.length + s.size ≤ 100000000000000) (hB : B ≤ w.heap.size) :
 Calls Tryz.prog 56 #[.pointer (some ⟨q, 0, none⟩), .string s] w fun e w' => e = .returned (.tuple #[.int .i64 s.size, .nilIface]) ∧ Bd_b w' B q (l ++ bytesOf s) ∧ KnW B q w w' := by
 obtain ⟨p, A, n, c, hp, h⟩ := h;have hn := h.len;subst hn;obtain ⟨i0, hi, hz0, hz1, hz2⟩ := info_parts infoU8;go_enter Tryz.func56, Tryz.ntmps56;go_wp2_with (go_at_call 97; refine (copyCheck_b h hp).mono ?_);rintro e w1 ⟨rfl, h1, hb1⟩;have hB1 : B ≤ w1.heap.size := by have := hb1.size; omega
 have c0 := h1.cellA (k := 0) rfl;have c1 := h1.cellB (k := 1) rfl;have hown1 : w1.ownsRow B 5 1 (.slice A l.length c) l.length (u8C l) := h1.own;go_wp2_with (at_builtin; go_loud (refine Lib.wpList_append_own_string _ rfl _ _ 92 9 rfl B 5 i0 Tryz.underlying92 Tryz.underlying9 hi hz0 hz1 hz2 _ _ _ rfl hown1 s rfl ?c3 ?c4 ?c5 ?_))
 case c3 => unfold maxLen; omega
 case c4 => omega
 case c5 => exact hB1
 intro v' w2 hown' hgrow _;obtain ⟨ao, cap, rfl, hown2⟩ := xwk hown';have hsn : l.length + s.size = (l ++ bytesOf s).length := by rw [List.length_append, xqe]
 have hown3 : OwnR w2 B 5 1 ao (l.length + s.size) cap (u8C (l ++ bytesOf s)) := by rw [u8C_app, ← zqk]; exact hown2
 have HP := hid (h1.put hgrow hsn hown3 (k := 1) rfl);have HG := hid ((hb1.trans (KnW.own hown1 hgrow)).trans (KnW.set B q w2 1 (.slice ao (l.length + s.size) cap)));have hr2 : RowA w2 q 94 (([] ++ [.pointer (some ⟨q, 0, none⟩), .slice A l.length c] : List Value)).toArray := h1.row.grown hgrow h1.apart;have d1 : w2.cell? ⟨q, 1, none⟩ = some (.slice A l.length c) := hr2.cell rfl;have f1 : w2.frozen? ⟨q, 1, none⟩ = false := hr2.free 1;clear hown' hown2 hown3 hgrow hr2 hsn;go_wp2
 go_ret2
 exact ⟨rfl, ⟨_, _, _, _, .inr rfl, HP.out⟩, HG.out⟩
set_option maxRecDepth 100000 in
theorem lenB_b {w : World} {B q : Nat} {l : List Nat} (h : Bd_b w B q l) :
 Calls Tryz.prog 58 #[.pointer (some ⟨q, 0, none⟩)] w fun e w' => e = .returned (.int .i64 (l.length : Int)) ∧ w' = w := by
 obtain ⟨p, A, n, c, hp, h⟩ := h;have c1 := h.cellB (k := 1) rfl;have hn := h.len;subst hn;go_enter Tryz.func58, Tryz.ntmps58;go_wp2
 go_ret
 exact ⟨rfl, rfl⟩
set_option maxRecDepth 100000 in
theorem string_b {w : World} {B q : Nat} {l : List Nat} (h : Bd_b w B q l) (hb : Bytes l) (hB : B ≤ w.heap.size) :
 Calls Tryz.prog 59 #[.pointer (some ⟨q, 0, none⟩)] w fun e w' => e = .returned (.string (strOf l)) ∧ Below B w w' := by
 obtain ⟨p, A, n, c, hp, h⟩ := h;have mixed : Tryz.prog.follows .mixedOrders = true := Tryz.checked.mixed;have hUN : ∀ W x, (Builtin.unsafeString_ #[136, 3] 9 #[.pointer x, .int .i64 0]).run Tryz.prog W = .ok (.string .empty) W := fun W x => Lib.run_unsafeString_none W _ _ _ x
 have hn := h.len;have hown := h.own;have hrow := h.row;unfold OwnR at hown;rcases hown.2 with ⟨hv, h0⟩ | ⟨g, cap, cur, hv, hbg, hg, hnc, hcm, hcs, htake⟩
 · injection hv with hv1 hv2 hv3
   subst hv1 hv2 hv3;have hl0 : l = [] := List.eq_nil_of_length_eq_zero hn.symm;subst hl0;have c1 : w.drew.cell? ⟨q, 1, none⟩ = some (.slice none 0 0) := hrow.drew.cell rfl;have hSD : (Builtin.unsafeSliceData_ #[92] 136 #[.slice none 0 0]).run Tryz.prog w.drew = .ok (.pointer none) w.drew := rfl;clear hown hrow h hn hp;go_enter Tryz.func59, Tryz.ntmps59;go_wp2
   go_region_o
   all_goals (go_wp2; go_ret; exact ⟨rfl, Below.drew (Below.refl B w)⟩)
 · injection hv with hv1 hv2 hv3
   subst hv1 hv3;by_cases hl0 : l = []
   · subst hl0;obtain rfl : n = 0 := hn;by_cases hc0 : c = 0
     · subst hc0;have hlt : q < w.heap.size := h.lt;have c0 : w.cell? ⟨q, 1, none⟩ = some (.slice (some ⟨g, 0, none⟩) 0 0) := hrow.cell rfl;have c1 : w.drew.cell? ⟨q, 1, none⟩ = some (.slice (some ⟨g, 0, none⟩) 0 0) := c0;have hSD : (Builtin.unsafeSliceData_ #[92] 136 #[.slice (some ⟨g, 0, none⟩) 0 0]).run Tryz.prog w.drew = .ok (.pointer (some ⟨w.drew.heap.size, 0, none⟩)) (w.drew.alloc (.view ⟨g, 0, none⟩ 5)) :=
        Lib.run_unsafeSliceData_zero w.drew _ _ 5 Tryz.underlying136 ⟨g, 0, none⟩ 0 (5, cur.size) (by have hg' : w.drew.heap[g]? = some (.cells cur 5 (0, 0)) := hg; simp [World.shape?, hg'])
       have c2 : (w.drew.alloc (.view ⟨g, 0, none⟩ 5)).cell? ⟨q, 1, none⟩ = some (.slice (some ⟨g, 0, none⟩) 0 0) := by
        have : (w.drew.alloc (.view ⟨g, 0, none⟩ 5)).heap[q]? = _ := (Lib.alloc_old w.drew _ q hlt).trans hrow;rw [Lib.cell_of_heap this]; rfl
       have c3 : (w.alloc (.view ⟨g, 0, none⟩ 5)).drew.cell? ⟨q, 1, none⟩ = some (.slice (some ⟨g, 0, none⟩) 0 0) := c2;clear hown hrow h hp hg;go_enter Tryz.func59, Tryz.ntmps59;go_wp2
       go_region_o
       all_goals (go_wp2; go_ret; exact ⟨rfl, (Below.drew (Below.refl B w)).alloc hB _⟩)
     · have c1 : w.drew.cell? ⟨q, 1, none⟩ = some (.slice (some ⟨g, 0, none⟩) 0 c) := hrow.drew.cell rfl;have hSD : (Builtin.unsafeSliceData_ #[92] 136 #[.slice (some ⟨g, 0, none⟩) 0 c]).run Tryz.prog w.drew = .ok (.pointer (some ⟨g, 0, none⟩)) w.drew :=
        Lib.run_unsafeSliceData_row _ _ _ _ _ _ hc0
       clear hown hrow h hp hg hc0;go_enter Tryz.func59, Tryz.ntmps59;go_wp2
       go_region_o
       all_goals (go_wp2; go_ret; exact ⟨rfl, Below.drew (Below.refl B w)⟩)
   · have hl1 : l.length ≠ 0 := fun e => hl0 (List.eq_nil_of_length_eq_zero e)
     obtain ⟨m, hm⟩ : ∃ m, l.map UInt8.ofNat = m := ⟨_, rfl⟩;have hml : m.length = n := by rw [← hm, List.length_map]; exact hn.symm
     have hm0 : m ≠ [] := fun e => by rw [e] at hml; simp at hml; omega
     have hmc : Lib.byteCells m = u8C l := by rw [← hm]; exact yws hb
     have hst : strOf l = ⟨m.toArray⟩ := by rw [← hm]; rfl
     have c1 : w.drew.cell? ⟨q, 1, none⟩ = some (.slice (some ⟨g, 0, none⟩) n c) := hrow.drew.cell rfl;have hSD : (Builtin.unsafeSliceData_ #[92] 136 #[.slice (some ⟨g, 0, none⟩) n c]).run Tryz.prog w.drew = .ok (.pointer (some ⟨g, 0, none⟩)) w.drew :=
      Lib.run_unsafeSliceData_row _ _ _ _ _ _ (by omega)
     have hUS : (Builtin.unsafeString_ #[136, 3] 9 #[.pointer (some ⟨g, 0, none⟩), .int .i64 n]).run Tryz.prog w.drew = .ok (.string ⟨m.toArray⟩) (w.drew.freeze ⟨g, 0, none⟩ n) := by
      rw [← hml];refine Lib.run_unsafeString_row w.drew 136 3 9 5 Tryz.underlying136 cellsU8 g cur.size (by have hg' : w.drew.heap[g]? = some (.cells cur 5 (0, 0)) := hg; simp [World.shape?, hg']) m hm0 (by omega) (by unfold maxLen at hcm; omega) ?_;intro j x hx;have := hown.cells (g := g) rfl j (.int .u8 x.toNat) (by rw [← hmc]; simp [Lib.byteCells, hx]);exact this
     rw [hst];have HBG := hid hbg;clear hown hrow h hp hg hmc hst hm hml htake hcs hnc hl0 hl1 hm0 hb hn hbg;go_enter Tryz.func59, Tryz.ntmps59;go_wp2
     go_region_o
     all_goals (go_wp2; go_ret; exact ⟨rfl, Lib.below_freeze (Below.drew (Below.refl B w)) (p := ⟨g, 0, none⟩) HBG.out _⟩)
theorem lies_w : liesAt Tryz.prog Tryz.prog.depth 131 (3 / Tryz.prog.cellsOf 131) 1 94 1 = true := by kernel_rfl
def Bd_w (w : World) (B q : Nat) (C : Option Addr) (N D : Nat) (l : List Nat) : Prop := ∃ p A n c, (p = .pointer none ∨ p = .pointer (some ⟨q, 1, none⟩)) ∧ BuI w B q 131 [.slice C N D] p A n c l
theorem Bd_w.below {w w' : World} {B q : Nat} {C : Option Addr} {N D : Nat} {l : List Nat} (h : Bd_w w B q C N D l) (hb : Below w.heap.size w w') : Bd_w w' B q C N D l := by
 obtain ⟨p, A, n, c, h1, h2⟩ := h;exact ⟨p, A, n, c, h1, h2.below hb⟩
set_option maxRecDepth 100000 in
theorem copyCheck_w {w : World} {B q n c : Nat} {C : Option Addr} {N D : Nat} {A : Option Addr} {p : Value} {l : List Nat} (h : BuI w B q 131 [.slice C N D] p A n c l) (hp : p = .pointer none ∨ p = .pointer (some ⟨q, 1, none⟩)) :
 Calls Tryz.prog 97 #[.pointer (some ⟨q, 1, none⟩)] w fun e w' => e = .returned (.tuple #[]) ∧ BuI w' B q 131 [.slice C N D] (.pointer (some ⟨q, 1, none⟩)) A n c l ∧ KnW B q w w' := by
 obtain ⟨j, hj, hjs⟩ := Option.map_eq_some_iff.1 sizeBu;have c0 := h.cellA (k := 1) rfl;have hfz : w.frozen? ⟨q, 1, none⟩ = false := h.row.free 1;have hsh := h.shape (k := 3) rfl;rcases hp with rfl | rfl
 · have HU := hid (h.used (k := 1) rfl (.pointer (some ⟨q, 1, none⟩)));clear h;go_enter Tryz.func97, Tryz.ntmps97;go_wp2
   rw [Lib.run_to_unsafe w ⟨q, 1, none⟩ Tryz.underlying91 Tryz.underlying155 hj (by rw [hjs]; decide) hsh (by show 1 < 3; decide)];simp only [Result.andThen];rw [Oper.upon_value];go_wp2
   rw [run_callFunc_extern Tryz.func128 (by kernel_rfl) (by kernel_rfl) (by kernel_rfl) (e := Extern.AbiNoEscape.same) (by kernel_rfl)];rw [Lib.run_noEscape];simp only [Result.andThen];rw [Oper.upon_value];go_wp2
   rw [Lib.run_from_unsafe w ⟨q, 1, none⟩ Tryz.underlying155 Tryz.underlying91 hj hsh lies_w];simp only [Result.andThen];rw [Oper.upon_value];go_wp2
   go_end0
   exact ⟨rfl, HU.out, KnW.set B q w 1 _⟩
 · have H := hid h;clear h;go_enter Tryz.func97, Tryz.ntmps97;go_wp2
   rw [Lib.run_neq_ptr_same w _ Tryz.underlying91 hj];go_wp2
   go_end0
   exact ⟨rfl, H.out, KnW.refl B q w⟩
set_option maxRecDepth 100000 in
theorem writeString_w {w : World} {B q : Nat} {C : Option Addr} {N D : Nat} {l : List Nat} (h : Bd_w w B q C N D l) (s : ByteArray) (hl : l.length + s.size ≤ 100000000000000) (hB : B ≤ w.heap.size) :
 Calls Tryz.prog 56 #[.pointer (some ⟨q, 1, none⟩), .string s] w fun e w' => e = .returned (.tuple #[.int .i64 s.size, .nilIface]) ∧ Bd_w w' B q C N D (l ++ bytesOf s) ∧ KnW B q w w' := by
 obtain ⟨p, A, n, c, hp, h⟩ := h;have hn := h.len;subst hn;obtain ⟨i0, hi, hz0, hz1, hz2⟩ := info_parts infoU8;go_enter Tryz.func56, Tryz.ntmps56;go_wp2_with (go_at_call 97; refine (copyCheck_w h hp).mono ?_);rintro e w1 ⟨rfl, h1, hb1⟩;have hB1 : B ≤ w1.heap.size := by have := hb1.size; omega
 have c0 := h1.cellA (k := 1) rfl;have c1 := h1.cellB (k := 2) rfl;have hown1 : w1.ownsRow B 5 1 (.slice A l.length c) l.length (u8C l) := h1.own;go_wp2_with (at_builtin; go_loud (refine Lib.wpList_append_own_string _ rfl _ _ 92 9 rfl B 5 i0 Tryz.underlying92 Tryz.underlying9 hi hz0 hz1 hz2 _ _ _ rfl hown1 s rfl ?c3 ?c4 ?c5 ?_))
 case c3 => unfold maxLen; omega
 case c4 => omega
 case c5 => exact hB1
 intro v' w2 hown' hgrow _;obtain ⟨ao, cap, rfl, hown2⟩ := xwk hown';have hsn : l.length + s.size = (l ++ bytesOf s).length := by rw [List.length_append, xqe]
 have hown3 : OwnR w2 B 5 1 ao (l.length + s.size) cap (u8C (l ++ bytesOf s)) := by rw [u8C_app, ← zqk]; exact hown2
 have HP := hid (h1.put hgrow hsn hown3 (k := 2) rfl);have HG := hid ((hb1.trans (KnW.own hown1 hgrow)).trans (KnW.set B q w2 2 (.slice ao (l.length + s.size) cap)));have hr2 : RowA w2 q 131 (([.slice C N D] ++ [.pointer (some ⟨q, 1, none⟩), .slice A l.length c] : List Value)).toArray := h1.row.grown hgrow h1.apart;have d1 : w2.cell? ⟨q, 2, none⟩ = some (.slice A l.length c) := hr2.cell rfl;have f1 : w2.frozen? ⟨q, 2, none⟩ = false := hr2.free 2;clear hown' hown2 hown3 hgrow hr2 hsn;go_wp2
 go_ret2
 exact ⟨rfl, ⟨_, _, _, _, .inr rfl, HP.out⟩, HG.out⟩
set_option maxRecDepth 100000 in
theorem string_w {w : World} {B q : Nat} {C : Option Addr} {N D : Nat} {l : List Nat} (h : Bd_w w B q C N D l) (hb : Bytes l) (hB : B ≤ w.heap.size) :
 Calls Tryz.prog 59 #[.pointer (some ⟨q, 1, none⟩)] w fun e w' => e = .returned (.string (strOf l)) ∧ Below B w w' := by
 obtain ⟨p, A, n, c, hp, h⟩ := h;have mixed : Tryz.prog.follows .mixedOrders = true := Tryz.checked.mixed;have hUN : ∀ W x, (Builtin.unsafeString_ #[136, 3] 9 #[.pointer x, .int .i64 0]).run Tryz.prog W = .ok (.string .empty) W := fun W x => Lib.run_unsafeString_none W _ _ _ x
 have hn := h.len;have hown := h.own;have hrow := h.row;unfold OwnR at hown;rcases hown.2 with ⟨hv, h0⟩ | ⟨g, cap, cur, hv, hbg, hg, hnc, hcm, hcs, htake⟩
 · injection hv with hv1 hv2 hv3
   subst hv1 hv2 hv3;have hl0 : l = [] := List.eq_nil_of_length_eq_zero hn.symm;subst hl0;have c1 : w.drew.cell? ⟨q, 2, none⟩ = some (.slice none 0 0) := hrow.drew.cell rfl;have hSD : (Builtin.unsafeSliceData_ #[92] 136 #[.slice none 0 0]).run Tryz.prog w.drew = .ok (.pointer none) w.drew := rfl;clear hown hrow h hn hp;go_enter Tryz.func59, Tryz.ntmps59;go_wp2
   go_region_o
   all_goals (go_wp2; go_ret; exact ⟨rfl, Below.drew (Below.refl B w)⟩)
 · injection hv with hv1 hv2 hv3
   subst hv1 hv3;by_cases hl0 : l = []
   · subst hl0;obtain rfl : n = 0 := hn;by_cases hc0 : c = 0
     · subst hc0;have hlt : q < w.heap.size := h.lt;have c0 : w.cell? ⟨q, 2, none⟩ = some (.slice (some ⟨g, 0, none⟩) 0 0) := hrow.cell rfl;have c1 : w.drew.cell? ⟨q, 2, none⟩ = some (.slice (some ⟨g, 0, none⟩) 0 0) := c0;have hSD : (Builtin.unsafeSliceData_ #[92] 136 #[.slice (some ⟨g, 0, none⟩) 0 0]).run Tryz.prog w.drew = .ok (.pointer (some ⟨w.drew.heap.size, 0, none⟩)) (w.drew.alloc (.view ⟨g, 0, none⟩ 5)) :=
        Lib.run_unsafeSliceData_zero w.drew _ _ 5 Tryz.underlying136 ⟨g, 0, none⟩ 0 (5, cur.size) (by have hg' : w.drew.heap[g]? = some (.cells cur 5 (0, 0)) := hg; simp [World.shape?, hg'])
       have c2 : (w.drew.alloc (.view ⟨g, 0, none⟩ 5)).cell? ⟨q, 2, none⟩ = some (.slice (some ⟨g, 0, none⟩) 0 0) := by
        have : (w.drew.alloc (.view ⟨g, 0, none⟩ 5)).heap[q]? = _ := (Lib.alloc_old w.drew _ q hlt).trans hrow;rw [Lib.cell_of_heap this]; rfl
       have c3 : (w.alloc (.view ⟨g, 0, none⟩ 5)).drew.cell? ⟨q, 2, none⟩ = some (.slice (some ⟨g, 0, none⟩) 0 0) := c2;clear hown hrow h hp hg;go_enter Tryz.func59, Tryz.ntmps59;go_wp2
       go_region_o
       all_goals (go_wp2; go_ret; exact ⟨rfl, (Below.drew (Below.refl B w)).alloc hB _⟩)
     · have c1 : w.drew.cell? ⟨q, 2, none⟩ = some (.slice (some ⟨g, 0, none⟩) 0 c) := hrow.drew.cell rfl;have hSD : (Builtin.unsafeSliceData_ #[92] 136 #[.slice (some ⟨g, 0, none⟩) 0 c]).run Tryz.prog w.drew = .ok (.pointer (some ⟨g, 0, none⟩)) w.drew :=
        Lib.run_unsafeSliceData_row _ _ _ _ _ _ hc0
       clear hown hrow h hp hg hc0;go_enter Tryz.func59, Tryz.ntmps59;go_wp2
       go_region_o
       all_goals (go_wp2; go_ret; exact ⟨rfl, Below.drew (Below.refl B w)⟩)
   · have hl1 : l.length ≠ 0 := fun e => hl0 (List.eq_nil_of_length_eq_zero e)
     obtain ⟨m, hm⟩ : ∃ m, l.map UInt8.ofNat = m := ⟨_, rfl⟩;have hml : m.length = n := by rw [← hm, List.length_map]; exact hn.symm
     have hm0 : m ≠ [] := fun e => by rw [e] at hml; simp at hml; omega
     have hmc : Lib.byteCells m = u8C l := by rw [← hm]; exact yws hb
     have hst : strOf l = ⟨m.toArray⟩ := by rw [← hm]; rfl
     have c1 : w.drew.cell? ⟨q, 2, none⟩ = some (.slice (some ⟨g, 0, none⟩) n c) := hrow.drew.cell rfl;have hSD : (Builtin.unsafeSliceData_ #[92] 136 #[.slice (some ⟨g, 0, none⟩) n c]).run Tryz.prog w.drew = .ok (.pointer (some ⟨g, 0, none⟩)) w.drew :=
      Lib.run_unsafeSliceData_row _ _ _ _ _ _ (by omega)
     have hUS : (Builtin.unsafeString_ #[136, 3] 9 #[.pointer (some ⟨g, 0, none⟩), .int .i64 n]).run Tryz.prog w.drew = .ok (.string ⟨m.toArray⟩) (w.drew.freeze ⟨g, 0, none⟩ n) := by
      rw [← hml];refine Lib.run_unsafeString_row w.drew 136 3 9 5 Tryz.underlying136 cellsU8 g cur.size (by have hg' : w.drew.heap[g]? = some (.cells cur 5 (0, 0)) := hg; simp [World.shape?, hg']) m hm0 (by omega) (by unfold maxLen at hcm; omega) ?_;intro j x hx;have := hown.cells (g := g) rfl j (.int .u8 x.toNat) (by rw [← hmc]; simp [Lib.byteCells, hx]);exact this
     rw [hst];have HBG := hid hbg;clear hown hrow h hp hg hmc hst hm hml htake hcs hnc hl0 hl1 hm0 hb hn hbg;go_enter Tryz.func59, Tryz.ntmps59;go_wp2
     go_region_o
     all_goals (go_wp2; go_ret; exact ⟨rfl, Lib.below_freeze (Below.drew (Below.refl B w)) (p := ⟨g, 0, none⟩) HBG.out _⟩)
end Go.Proofs.YtannifhcjcbkcaaGreatDoor
namespace Go.Proofs.YtannifhcjcbkcaaGreatDoor
open Go.RowKit Go.ChangeShapes Limb
open Lib (hid)
def bOwn (k : Nat) : Nat := if k = 1 ∨ k = 2 then 4 else if k = 3 ∨ k = 4 then 1 else if k = 5 ∨ k = 6 then 2 else if k = 7 ∨ k = 8 then 3 else 0
def bFst (k : Nat) : Nat := if k = 3 ∨ k = 4 then 1 else if k = 5 ∨ k = 6 then 2 else if k = 7 then 3 else if k = 8 then 4 else 0
def bSnd (k : Nat) : Nat := if k = 3 ∨ k = 4 then 2 else if k = 5 ∨ k = 6 then 3 else 0
def bSg (k : Nat) : List Nat := if k = 3 then [32, 43, 32] else if k = 4 then [32, 45, 32] else if k = 5 then [42] else if k = 6 then [47] else []
abbrev bdC (a b c : Int) (s : ByteArray) : Array Value := #[.int .i64 a, .int .i64 b, .int .i64 c, .string s]
def bondV (k : Nat) : Array Value := bdC (bOwn k : Nat) (bFst k : Nat) (bSnd k : Nat) (strOf (bSg k))
def BTab (w : World) : Prop := ∀ k, k < 9 → InV w 1 (k * 4) (bondV k)
theorem BTab.lt {w : World} (h : BTab w) : 1 < w.heap.size := xzb (h 0 (by decide) 0 _ rfl)
theorem BTab.below {w w' : World} (h : BTab w) (hb : Below w.heap.size w w') : BTab w' := fun k hk => (h k hk).below h.lt hb
def P10 (w : World) : Prop := ∃ T fr, w.heap[3]? = some (.cells (Lib.pow10Tab.map fun z => Value.int .u64 z).toArray T fr)
theorem P10.below {w w' : World} (h : P10 w) (hb : Below w.heap.size w w') : P10 w' := by
 obtain ⟨T, fr, h2⟩ := h;exact ⟨T, fr, (hb.block _ (Array.getElem?_eq_some_iff.1 h2).1).trans h2⟩
theorem P10.tab {w : World} (h : P10 w) {name : String} (hg : Tryz.prog.globalNamed name = some 3) : Lib.TabIs Tryz.prog w name .u64 Lib.pow10Tab := by
 obtain ⟨T, fr, h2⟩ := h;unfold Lib.TabIs World.var?;simp [hg, h2]
theorem decDig_is (u : Nat) : (yvt u).map UInt8.ofNat = Lib.decDigits u := by
 induction u using Nat.strongRecOn with
 | ind u ih =>
  rw [Lib.decDigits];by_cases h : u < 10
  · rw [dif_pos h, decT_small h]; rfl
  · rw [dif_neg h, decT_big (by omega), List.map_append, ih (u / 10) (by omega)]; rfl
theorem itoaT_is (e : Int) : Limb.strOf (zT e) = ⟨(Lib.itoa e).toArray⟩ := by
 unfold Limb.strOf zT Lib.itoa;by_cases h : e < 0
 · rw [if_pos h, if_pos h, List.map_cons, decDig_is]; rfl
 · rw [if_neg h, if_neg h, decDig_is, show e.toNat = e.natAbs by omega]
theorem itoaT_c (e : Int) (h : -9223372036854775808 ≤ e ∧ e ≤ 9223372036854775807) (w : World) (T : P10 w) :
 Calls Tryz.prog 99 #[.int .i64 e] w fun x w' => x = .returned (.string (strOf (zT e))) ∧ Below w.heap.size w w' := by
 rw [itoaT_is];refine (Any.strconv_Itoa Tryz.laysM171 e h.1 h.2 w ?_).mono ?_
 · exact T.tab (by kernel_rfl)
 · rintro x w' ⟨rfl, k, os, rfl⟩;exact ⟨rfl, Lib.below_grow _ _ (Nat.le_refl _) _ _⟩
set_option maxRecDepth 100000 in
theorem wBr_c (u : List Nat) (hu : u.length ≤ 1000000) (w : World) :
 Calls Tryz.prog 98 #[.string (strOf u)] w fun e w' => e = .returned (.string (strOf (91 :: (u ++ [93])))) ∧ w' = w := by
 have e : strOf (91 :: (u ++ [93])) = (⟨#[91]⟩ : ByteArray) ++ strOf u ++ (⟨#[93]⟩ : ByteArray) := by
  rw [show 91 :: (u ++ [93]) = [91] ++ u ++ [93] by simp, ← xjh, ← xjh]; rfl
 have h1 := xqh u;rw [e];generalize strOf u = U at *;have h2 : U.size ≤ 1000000 := by omega
 clear e h1;have h3 : ((⟨#[91]⟩ : ByteArray) ++ U).size ≤ 1000001 := by rw [ByteArray.size_append]; show 1 + U.size ≤ _; omega
 go_enter Tryz.func98, Tryz.ntmps98;go_wp2
 go_ret
 exact ⟨rfl, rfl⟩
set_option maxRecDepth 100000 in
theorem xzy {w : World} {B q : Nat} {C : Option Addr} {N D : Nat} {l : List Nat} (h : Bd_w w B q C N D l) (s : ByteArray) (hl : l.length + s.size ≤ 100000000000000) (hB : B ≤ w.heap.size) :
 Calls Tryz.prog 126 #[.pointer (some ⟨q, 0, none⟩), .string s] w fun e w' => e = .returned (.tuple #[]) ∧ Bd_w w' B q C N D (l ++ bytesOf s) ∧ KnW B q w w' := by
 obtain ⟨p, A, n, c, hp, hu⟩ := id h;have c0 : w.cell? ⟨q, 0, none⟩ = some (.slice C N D) := hu.row.cell rfl;have H := hid h;clear h hp hu;go_enter Tryz.func126, Tryz.ntmps126;go_wp2_with (go_at_call 56; refine (writeString_w H.out s hl hB).mono ?_);rintro e w1 ⟨rfl, h1, k1⟩;have H1 := hid h1;have K1 := hid k1;clear h1 k1;go_wp2
 go_end0
 exact ⟨rfl, H1.out, K1.out⟩
def WrT (w : World) : Prop := XTab w ∧ BTab w ∧ P10 w
theorem WrT.below {w w' : World} (h : WrT w) (hb : Below w.heap.size w w') : WrT w' := ⟨h.1.below hb, h.2.1.below hb, h.2.2.below hb⟩
theorem tabB (k a b c : Nat) (s : List Nat) (hk : k < 9) (e : bOwn k = a ∧ bFst k = b ∧ bSnd k = c ∧ bSg k = s) {w : World} (h : BTab w) : InV w 1 (k * 4) (bdC (a : Int) (b : Int) (c : Int) (strOf s)) := by
 have := h k hk;unfold bondV at this;rw [e.1, e.2.1, e.2.2.1, e.2.2.2] at this;exact this
theorem wBr_u (u : ByteArray) (hu : u.size ≤ 1000000) (R : ByteArray) (hR : strOf (91 :: (bytesOf u ++ [93])) = R) (w : World) :
 Calls Tryz.prog 98 #[.string u] w fun e w' => e = .returned (.string R) ∧ w' = w := by
 have h := wBr_c (bytesOf u) (by rw [xqe]; exact hu) w;rw [xzt, hR] at h;exact h
abbrev zBd : Array Value := bdC 0 0 0 ⟨#[]⟩
theorem sizeBd : (Tryz.prog.info? 153).map (·.size) = some 4 := by kernel_rfl
theorem yj3 (a b c : Int) (s : ByteArray) : xq7 Tryz.prog 153 (bdC a b c s).size := ⟨sizeBd, _, Tryz.underlying153, rfl⟩
theorem bdC_one (a b c : Int) (s : ByteArray) : ∀ v ∈ bdC a b c s, v.oneCell' = true := by simp [Value.oneCell']
theorem yvh (a b c : Int) (s : ByteArray) : xq7 Tryz.prog 153 (bdC a b c s).size ∧ zBd.size = (bdC a b c s).size ∧ ∀ v ∈ bdC a b c s, v.oneCell' = true := ⟨yj3 a b c s, rfl, bdC_one a b c s⟩
end Go.Proofs.YtannifhcjcbkcaaGreatDoor
