/- Part 11 of the texts that the statements of this seat lean on: mathematics, and what functions answer, as contracts over memory; each part says its own conditions. -/
import Derived.Test.YtannifhcjcbkcaaGreatDoorMB10
set_option linter.unusedVariables false
set_option maxHeartbeats 8000000
namespace Go.Proofs.YtannifhcjcbkcaaGreatDoor
open Go.RowKit Limb
open Lib (hid)
section
variable {w : World} {B q en : Nat} {L : Lim} {st : St}
theorem gd_gr {q gd : Nat} {w a b : World} (h : w.grownBy a (some q)) (k : Gd q gd a b) (hg : w.heap.size ≤ gd) : w.grownBy b (some q) :=
 ⟨k.os.trans h.os, k.tape.trans h.tape, k.output.trans h.output, Nat.le_trans h.size k.size, fun i hi hr => (k.block i (Nat.lt_of_lt_of_le hi h.size) (fun e => hr (by rw [e])) (by omega)).trans (h.block i hi hr)⟩
theorem ywo (w : World) (g : Nat) (V : Array Value) : w.grownBy (w.setRow g V) (some g) := ⟨rfl, rfl, rfl, by rw [setRow_size]; exact Nat.le_refl _, fun k hk hr => setRow_other w g k V (fun e => hr (by rw [e]))⟩
theorem Gd.row {q gd g : Nat} {w w' : World} {T : TypeId} {V : Array Value} (h : Gd q gd w w') (hr : RowA w g T V) (h1 : g ≠ q) (h2 : g ≠ gd) : RowA w' g T V := (h.block g hr.lt h1 h2).trans hr
theorem RdW.oth {w w' : World} {B q en : Nat} {L : Lim} {st : St} (h : RdW w B q en L st) {g : Nat} {T : TypeId} {U : Array Value} (hr : RowA w g T U) (ht : T ≠ 51) (ht2 : T ≠ 109) (hqg : q < g) (hg : w.grownBy w' (some g)) : RdW w' B q en L st := by
 obtain ⟨A, n, c, C, m, d, ts, h1, h2, h3, h4, h5, h6, h7, h9⟩ := h;have ho := h3.2.differ hr ht;refine ⟨A, n, c, C, m, d, ts, h1.grown hg (fun e => by injection e with e; omega), ⟨h2.1, h2.2.1, h2.2.2.1, fun h0 => ?_⟩, ⟨h3.1, h3.2.over hg (fun x e => by cases e; exact ho)⟩, h4, h5, h6, ?_, h9⟩
 · obtain ⟨g2, o, V, e, hb, hr2, hc⟩ := h2.2.2.2 h0;have hne : g2 ≠ g := by
    rintro rfl;unfold RowA at hr hr2;rw [hr] at hr2;injection hr2 with hr2
    injection hr2 with _ e2
    exact ht2 e2
   have hr3 := hr2.grown hg (fun e => hne (by injection e with e; exact e.symm));exact ⟨g2, o, V, e, hb, hr3, fun i t hi => zq7 (hc i t hi) hr2 hr3⟩
 · refine ⟨h7.1.same fun b i v hb hc => ?_, h7.2⟩;have e := hg.block b (xzb hc) (fun e => by injection e with e; have := h7.2; omega);rw [← hc];simp [World.cell?, e]
theorem yzi {w : World} {B q en : Nat} {L : Lim} {st : St} (h : RdW w B q en L st) {X : ByteArray} (hX : strOf (xqu en st) = X) : Calls Tryz.prog 76 #[.pointer (some ⟨q, 0, none⟩)] w fun x w' => x = .returned (.string X) ∧ RdW w' B q en L (yj2 en st) ∧ w.grownBy w' (some q) := by
 have := pName_c h;rw [hX] at this;exact this
theorem xq9 (L : Lim) (en K k : Nat) (s : St) (d : Dc) : (xqz L en K k s d).k = d.k ∧ (xqz L en K k s d).nm = d.nm ∧ (xqz L en K k s d).ot = d.ot ∧ (xqz L en K k s d).at' = d.at' := by
 unfold xqz
 repeat' split
 all_goals exact ⟨rfl, rfl, rfl, rfl⟩
theorem kind_le (t : Tk) : xve t ≤ 5 := by
 unfold xve;cases h : xvz t with
 | none => exact Nat.zero_le _
 | some k => exact (wordK_le h).2
set_option maxRecDepth 100000 in
theorem pDecl_c (h : RdW w B q en L st) (hB : B ≤ w.heap.size) (hL : L.Fit) {K : Nat} (i : Nat) (hfu : Fu L K (nilS (xqo en i st))) :
 Calls Tryz.prog 38 #[.pointer (some ⟨q, 0, none⟩), .int .i64 (i : Int)] w fun x w' => ∃ A n c ts pl B2, x = .returned (.agg (dcV ⟨{ zjg L en K i st with tr := ts, pl := pl }, A, n, c⟩)) ∧ OwnX w' A n c ts ∧ ((yqj L en K i st).E = 0 → ts = (zjg L en K i st).tr ∧ pl = (zjg L en K i st).pl) ∧ RdW w' B2 q en L (yqj L en K i st) ∧ B2 ≤ w'.heap.size ∧ w.grownBy w' (some q) := by
 have bn := xqc w (.cells zDc 62);have X0 := hid (xqd w 62 zDc);have H0 := hid (h.below bn);have R0 := hid (xjb bn (some q));have B0 : Hid (B ≤ (w.alloc (.cells zDc 62)).heap.size) := Nat.le_trans hB bn.size;have hq := h.lt;have hqr : Hid (q ≠ w.heap.size) := by show _ ≠ _; omega
 have hqr2 : Hid (q < w.heap.size) := hq;have hl := hid hL;have HFu := hid hfu;obtain ⟨gr, hgr⟩ : ∃ g, g = w.heap.size := ⟨_, rfl⟩;have Hgr := hid hgr;rw [← hgr] at X0 hqr hqr2;obtain ⟨⟨k, t, a⟩, hp⟩ : ∃ t, t = pkS (st) := ⟨_, rfl⟩;replace hp := hid hp.symm;have hbt := h.pk.1;rw [hp.out] at hbt;have hbt := hid hbt;obtain ⟨kk, hkk⟩ : ∃ n, n = xve (k, t, a) := ⟨_, rfl⟩;have Hkk : Hid (xve (pkS st) = kk) := by show _ = _; rw [hp.out]; exact hkk.symm
 have hk5 : kk ≤ 5 := by rw [hkk]; exact kind_le _
 have HKf : Hid (∀ w2, WTab w2 → Calls Tryz.prog 73 #[.agg #[.int .i64 (k : Int), .string (strOf t), .int .i64 (a : Int)]] w2 fun x w' => x = .returned (.int .i64 (kk : Int)) ∧ Below w2.heap.size w2 w') := fun w2 T => by rw [hkk]; exact pKindOf_c k a t hbt.out w2 T
 clear h bn hB hq hL hfu hkk;go_enter Tryz.func38, Tryz.ntmps38;go_wp2_with fail
 rw [← hgr];clear hgr;generalize w.alloc (.cells zDc 62) = w0 at *;go_wp2_with fail
 refine (xjy H0.out hp.out).mono ?_;rintro e w1 ⟨rfl, bn⟩;have hg := xjb bn (some q);have H1 := hid (H0.out.below bn);have R1 := hid (gr_trans R0.out hg);have X1 := hid (X0.out.grown hg (fun e => hqr.out (by injection e)));have B1 : Hid (B ≤ w1.heap.size) := Nat.le_trans B0.out hg.size;clear bn hg;clear H0 R0 X0 B0;go_wp2_with fail
 refine (HKf.out _ H1.out.tabs.2.1).mono ?_;rintro e w2 ⟨rfl, bn⟩;have hg := xjb bn (some q);have H2 := hid (H1.out.below bn);have R2 := hid (gr_trans R1.out hg);have X2 := hid (X1.out.grown hg (fun e => hqr.out (by injection e)));have B2 : Hid (B ≤ w2.heap.size) := Nat.le_trans B1.out hg.size;clear bn hg;clear H1 R1 X1 B1;by_cases k0 : kk = 0
 · subst k0;have e0 : True := trivial;have hdP : yzw en i st = yqc en st := by unfold yzw; rw [if_pos Hkk.out]
   go_wp2_with fail
   refine (yq9 H2.out).mono ?_;rintro e w3 ⟨rfl, h2, hg⟩;have H3 := hid h2;have R3 := hid (gr_trans R2.out hg);have X3 := hid (X2.out.grown hg (fun e => hqr.out (by injection e)));have B3 : Hid (B ≤ w3.heap.size) := Nat.le_trans B2.out hg.size;clear h2 hg;clear H2 R2 X2 B2;rw [← hdP] at H3;have HdP := hid hdP;clear hdP;go_wp2_with fail
   refine (xwa H3.out).mono ?_;rintro e w4 ⟨rfl, h2, hg⟩;have H4 := hid h2;have R4 := hid (gr_trans R3.out hg);have X4 := hid (X3.out.grown hg (fun e => hqr.out (by injection e)));have B4 : Hid (B ≤ w4.heap.size) := Nat.le_trans B3.out hg.size;clear h2 hg;clear H3 R3 X3 B3
   skip
   obtain ⟨⟨kn, tn, an⟩, hpn⟩ : ∃ t, t = pkS (xqq en i st) := ⟨_, rfl⟩;replace hpn := hid hpn.symm;have hfn := fun W => (xwt (kn : Int) (strOf tn) (an : Int) W).2.2
   have hd1 : rdS (yzw en i st) = xqq en i st := rfl;rw [hd1] at H4;clear hd1;obtain ⟨NM, hNM⟩ : ∃ X, X = strOf (xqu en (xqq en i st)) := ⟨_, rfl⟩;have HNM := hid hNM;clear hNM;go_wp2_with fail
   refine (xjy H4.out hpn.out).mono ?_;rintro e w5 ⟨rfl, bn⟩;have hg := xjb bn (some q);have H5 := hid (H4.out.below bn);have R5 := hid (gr_trans R4.out hg);have X5 := hid (X4.out.grown hg (fun e => hqr.out (by injection e)));have B5 : Hid (B ≤ w5.heap.size) := Nat.le_trans B4.out hg.size;clear bn hg;clear H4 R4 X4 B4;have HBd : Hid (∀ W, (Instr.build 62 ([(0, .int .i64 ((0 : Nat) : Int)), (8, .int .i64 (an : Int)), (1, .string NM)] : List (Nat × Value)).toArray).run Tryz.prog W = .ok (.agg (dcC ((0 : Nat) : Int) NM ⟨#[]⟩ ⟨#[]⟩ ⟨#[]⟩ ⟨#[]⟩ none 0 0 0 (an : Int))) W) := fun W => by kernel_rfl
   have HUd : Hid (xq7 Tryz.prog 62 (dcC ((0 : Nat) : Int) NM ⟨#[]⟩ ⟨#[]⟩ ⟨#[]⟩ ⟨#[]⟩ none 0 0 0 (an : Int)).size ∧ zDc.size = (dcC ((0 : Nat) : Int) NM ⟨#[]⟩ ⟨#[]⟩ ⟨#[]⟩ ⟨#[]⟩ none 0 0 0 (an : Int)).size ∧ ∀ v ∈ dcC ((0 : Nat) : Int) NM ⟨#[]⟩ ⟨#[]⟩ ⟨#[]⟩ ⟨#[]⟩ none 0 0 0 (an : Int), v.oneCell' = true) := ⟨xq3 _ _ _ _ _ _ _ _ _ _ _, rfl, by simp [Value.oneCell']⟩;go_wp2_with fail
   refine (yzi H5.out HNM.out.symm).mono ?_;rintro e w6 ⟨rfl, h2, hg⟩;have H6 := hid h2;have R6 := hid (gr_trans R5.out hg);have X6 := hid (X5.out.grown hg (fun e => hqr.out (by injection e)));have B6 : Hid (B ≤ w6.heap.size) := Nat.le_trans B5.out hg.size;clear h2 hg;clear H5 R5 X5 B5;have hd2 : yj2 en (xqq en i st) = ywb en i st := rfl;rw [hd2] at H6;clear hd2;have bn := xqc w6 (.cells (dcC ((0 : Nat) : Int) NM ⟨#[]⟩ ⟨#[]⟩ ⟨#[]⟩ ⟨#[]⟩ none 0 0 0 (an : Int)) 62);have hg := xjb bn (some q);have H7 := hid (H6.out.below bn);have hqd2 : Hid (q < w6.heap.size) := H6.out.lt;have hqd : Hid (q ≠ w6.heap.size) := by show _ ≠ _; have := H6.out.lt; omega
   have hrd : Hid (gr ≠ w6.heap.size) := by show _ ≠ _; have := X6.out.lt; omega
   have D7 := hid (xqd w6 62 (dcC ((0 : Nat) : Int) NM ⟨#[]⟩ ⟨#[]⟩ ⟨#[]⟩ ⟨#[]⟩ none 0 0 0 (an : Int)));have hwd : Hid (w.heap.size ≤ w6.heap.size) := R6.out.size;have R7 := hid (gr_trans R6.out hg);have X7 := hid (X6.out.below bn);have B7 : Hid (B ≤ (w6.alloc (.cells (dcC ((0 : Nat) : Int) NM ⟨#[]⟩ ⟨#[]⟩ ⟨#[]⟩ ⟨#[]⟩ none 0 0 0 (an : Int)) 62)).heap.size) := Nat.le_trans B6.out bn.size;clear bn hg H6 R6 X6 B6;go_wp2_with (first | (refine xqn (by rfl) _ _ (by rfl) _ (by rfl) _ (by assumption) ?_) | (refine xqg (by rfl) _ _ _ (by rfl) _ _ _ (by rfl) (by rfl) (by assumption) ?_; generalize w6.alloc (.cells (dcC ((0 : Nat) : Int) NM ⟨#[]⟩ ⟨#[]⟩ ⟨#[]⟩ ⟨#[]⟩ none 0 0 0 (an : Int)) 62) = w7 at *));obtain ⟨gd, hgd⟩ : ∃ g, g = w6.heap.size := ⟨_, rfl⟩;rw [← hgd] at hqd hqd2 hrd hwd D7 ⊢;clear hgd HBd HUd hfn;have hd3 : Hid (ywb en i st = yj5 en i st) := by show _ = _; unfold yj5; rw [Hkk.out, if_neg (by omega)]
   have hod : Hid (strOf (xqy en i st) = ⟨#[]⟩) := by show _ = _; unfold xqy; rw [Hkk.out, if_neg (by omega)]; rfl
   rw [hd3.out] at H7;go_wp2_with fail
   refine (xvl H7.out 61 (by decide)).mono ?_;rintro e w8 ⟨rfl, h2, hg⟩;have H8 := hid h2;have R8 := hid (gr_trans R7.out hg);have X8 := hid (X7.out.grown hg (fun e => hqr.out (by injection e)));have B8 : Hid (B ≤ w8.heap.size) := Nat.le_trans B7.out hg.size;have D8 := hid (D7.out.grown hg (fun e => hqd.out (by injection e)));clear h2 hg;clear H7 R7 X7 B7 D7;have hd4 : xvi en [61] (yj5 en i st) = xqo en i st := rfl;rw [hd4] at H8;clear hd4;go_wp2_with fail
   refine (zqr H8.out B8.out hl.out HFu.out hqd2.out D8.out ⟨((0 : Nat) : Nat), xqu en (xqq en i st), xqy en i st, [], [], [], [], 0, (an : Int)⟩ ⟨rfl, rfl, rfl, rfl, rfl⟩).mono ?_;rintro e w9 ⟨rfl, A5, n5, c5, ts5, pl5, Bz, hD, hT, hts, h2, hBz, hgd⟩;have hrr := hgd.row X8.out (Ne.symm hqr.out) hrd.out;have H9 := hid h2;have D9 := hid hD;have R9 := hid (gd_gr R8.out hgd hwd.out);have X9 := hid hrr;have B9 := hid hBz;have T9 := hid hT;have Hts := hid hts;clear hD hT hts h2 hBz hgd hrr;clear H8 R8 X8 B8 D8;go_wp2_with fail
   refine (xvl H9.out 59 (by decide)).mono ?_;rintro e w10 ⟨rfl, h2, hg⟩;have H10 := hid h2;have R10 := hid (gr_trans R9.out hg);have X10 := hid (X9.out.grown hg (fun e => hqr.out (by injection e)));have B10 : Hid (Bz ≤ w10.heap.size) := Nat.le_trans B9.out hg.size;have D10 := hid (D9.out.grown hg (fun e => hqd.out (by injection e)));have T10 := hid (T9.out.over (RdW.size H9.out).choose_spec.choose_spec.choose_spec.choose_spec.choose_spec.choose_spec yju hg);clear h2 hg;clear H9 R9 X9 B9 D9 T9;have HI := hid D10.out.inV;have HM := hid (xq3 ((0 : Nat) : Int) NM ⟨#[]⟩ (strOf (xqz L en K (0 : Nat) (xqo en i st) ⟨((0 : Nat) : Nat), xqu en (xqq en i st), xqy en i st, [], [], [], [], 0, (an : Int)⟩).nu) (strOf (xqz L en K (0 : Nat) (xqo en i st) ⟨((0 : Nat) : Nat), xqu en (xqq en i st), xqy en i st, [], [], [], [], 0, (an : Int)⟩).va) (strOf (xqz L en K (0 : Nat) (xqo en i st) ⟨((0 : Nat) : Nat), xqu en (xqq en i st), xqy en i st, [], [], [], [], 0, (an : Int)⟩).un) A5 n5 c5 pl5 (an : Int));have HU : Hid (xq7 Tryz.prog 62 (dcC ((0 : Nat) : Int) NM ⟨#[]⟩ (strOf (xqz L en K (0 : Nat) (xqo en i st) ⟨((0 : Nat) : Nat), xqu en (xqq en i st), xqy en i st, [], [], [], [], 0, (an : Int)⟩).nu) (strOf (xqz L en K (0 : Nat) (xqo en i st) ⟨((0 : Nat) : Nat), xqu en (xqq en i st), xqy en i st, [], [], [], [], 0, (an : Int)⟩).va) (strOf (xqz L en K (0 : Nat) (xqo en i st) ⟨((0 : Nat) : Nat), xqu en (xqq en i st), xqy en i st, [], [], [], [], 0, (an : Int)⟩).un) A5 n5 c5 pl5 (an : Int)).size ∧ zDc.size = (dcC ((0 : Nat) : Int) NM ⟨#[]⟩ (strOf (xqz L en K (0 : Nat) (xqo en i st) ⟨((0 : Nat) : Nat), xqu en (xqq en i st), xqy en i st, [], [], [], [], 0, (an : Int)⟩).nu) (strOf (xqz L en K (0 : Nat) (xqo en i st) ⟨((0 : Nat) : Nat), xqu en (xqq en i st), xqy en i st, [], [], [], [], 0, (an : Int)⟩).va) (strOf (xqz L en K (0 : Nat) (xqo en i st) ⟨((0 : Nat) : Nat), xqu en (xqq en i st), xqy en i st, [], [], [], [], 0, (an : Int)⟩).un) A5 n5 c5 pl5 (an : Int)).size ∧ ∀ v ∈ dcC ((0 : Nat) : Int) NM ⟨#[]⟩ (strOf (xqz L en K (0 : Nat) (xqo en i st) ⟨((0 : Nat) : Nat), xqu en (xqq en i st), xqy en i st, [], [], [], [], 0, (an : Int)⟩).nu) (strOf (xqz L en K (0 : Nat) (xqo en i st) ⟨((0 : Nat) : Nat), xqu en (xqq en i st), xqy en i st, [], [], [], [], 0, (an : Int)⟩).va) (strOf (xqz L en K (0 : Nat) (xqo en i st) ⟨((0 : Nat) : Nat), xqu en (xqq en i st), xqy en i st, [], [], [], [], 0, (an : Int)⟩).un) A5 n5 c5 pl5 (an : Int), v.oneCell' = true) := ⟨xq3 _ _ _ _ _ _ _ _ _ _ _, rfl, by simp [Value.oneCell']⟩
   have HRf := hid (RowA.fill X10.out (V' := dcC ((0 : Nat) : Int) NM ⟨#[]⟩ (strOf (xqz L en K (0 : Nat) (xqo en i st) ⟨((0 : Nat) : Nat), xqu en (xqq en i st), xqy en i st, [], [], [], [], 0, (an : Int)⟩).nu) (strOf (xqz L en K (0 : Nat) (xqo en i st) ⟨((0 : Nat) : Nat), xqu en (xqq en i st), xqy en i st, [], [], [], [], 0, (an : Int)⟩).va) (strOf (xqz L en K (0 : Nat) (xqo en i st) ⟨((0 : Nat) : Nat), xqu en (xqq en i st), xqy en i st, [], [], [], [], 0, (an : Int)⟩).un) A5 n5 c5 pl5 (an : Int)));have hgr2 := ywo w10 gr (dcC ((0 : Nat) : Int) NM ⟨#[]⟩ (strOf (xqz L en K (0 : Nat) (xqo en i st) ⟨((0 : Nat) : Nat), xqu en (xqq en i st), xqy en i st, [], [], [], [], 0, (an : Int)⟩).nu) (strOf (xqz L en K (0 : Nat) (xqo en i st) ⟨((0 : Nat) : Nat), xqu en (xqq en i st), xqy en i st, [], [], [], [], 0, (an : Int)⟩).va) (strOf (xqz L en K (0 : Nat) (xqo en i st) ⟨((0 : Nat) : Nat), xqu en (xqq en i st), xqy en i st, [], [], [], [], 0, (an : Int)⟩).un) A5 n5 c5 pl5 (an : Int));have HF := hid (H10.out.oth X10.out (by decide) (by decide) hqr2.out hgr2);have HT := hid (T10.out.over X10.out (by decide) hgr2);have HR := hid (yqu R10.out (Nat.le_of_eq Hgr.out.symm) (dcC ((0 : Nat) : Int) NM ⟨#[]⟩ (strOf (xqz L en K (0 : Nat) (xqo en i st) ⟨((0 : Nat) : Nat), xqu en (xqq en i st), xqy en i st, [], [], [], [], 0, (an : Int)⟩).nu) (strOf (xqz L en K (0 : Nat) (xqo en i st) ⟨((0 : Nat) : Nat), xqu en (xqq en i st), xqy en i st, [], [], [], [], 0, (an : Int)⟩).va) (strOf (xqz L en K (0 : Nat) (xqo en i st) ⟨((0 : Nat) : Nat), xqu en (xqq en i st), xqy en i st, [], [], [], [], 0, (an : Int)⟩).un) A5 n5 c5 pl5 (an : Int)))
   have HB : Hid (Bz ≤ (w10.setRow gr (dcC ((0 : Nat) : Int) NM ⟨#[]⟩ (strOf (xqz L en K (0 : Nat) (xqo en i st) ⟨((0 : Nat) : Nat), xqu en (xqq en i st), xqy en i st, [], [], [], [], 0, (an : Int)⟩).nu) (strOf (xqz L en K (0 : Nat) (xqo en i st) ⟨((0 : Nat) : Nat), xqu en (xqq en i st), xqy en i st, [], [], [], [], 0, (an : Int)⟩).va) (strOf (xqz L en K (0 : Nat) (xqo en i st) ⟨((0 : Nat) : Nat), xqu en (xqq en i st), xqy en i st, [], [], [], [], 0, (an : Int)⟩).un) A5 n5 c5 pl5 (an : Int))).heap.size) := by show _ ≤ _; rw [setRow_size]; exact B10.out
   clear hgr2;go_wp2_with (first | (refine xqf (by rfl) _ _ (by rfl) _ _ (by rfl) _ (by assumption) (by assumption) ?_) | (refine xqi (by rfl) _ _ _ (by rfl) _ (by rfl) _ (by rfl) _ _ (by assumption) (by assumption) ?_));refine bodyPost_ret (results_cell_row rfl _ _ _ 62 (dcC ((0 : Nat) : Int) NM ⟨#[]⟩ (strOf (xqz L en K (0 : Nat) (xqo en i st) ⟨((0 : Nat) : Nat), xqu en (xqq en i st), xqy en i st, [], [], [], [], 0, (an : Int)⟩).nu) (strOf (xqz L en K (0 : Nat) (xqo en i st) ⟨((0 : Nat) : Nat), xqu en (xqq en i st), xqy en i st, [], [], [], [], 0, (an : Int)⟩).va) (strOf (xqz L en K (0 : Nat) (xqo en i st) ⟨((0 : Nat) : Nat), xqu en (xqq en i st), xqy en i st, [], [], [], [], 0, (an : Int)⟩).un) A5 n5 c5 pl5 (an : Int)) (0, 0) _ rfl HRf.out Tryz.underlying62 rfl yq7) rfl ?_;have hk0 : xve (pkS st) = (0 : Nat) := Hkk.out;have hdec : zjg L en K i st = xqz L en K (0 : Nat) (xqo en i st) ⟨((0 : Nat) : Nat), xqu en (xqq en i st), xqy en i st, [], [], [], [], 0, (an : Int)⟩ := by
    unfold zjg dec0;rw [hk0, hpn.out]
   have hsS : yqj L en K i st = xvi en [59] (bodS L en K (0 : Nat) (xqo en i st)) := by unfold yqj dec5; rw [hk0]
   refine ⟨A5, n5, c5, ts5, pl5, Bz, ?_, HT.out, ?_, ?_, HB.out, HR.out⟩
   · rw [hdec];show _ = Ending.returned (.agg (dcC (xqz L en K (0 : Nat) (xqo en i st) ⟨((0 : Nat) : Nat), xqu en (xqq en i st), xqy en i st, [], [], [], [], 0, (an : Int)⟩).k (strOf (xqz L en K (0 : Nat) (xqo en i st) ⟨((0 : Nat) : Nat), xqu en (xqq en i st), xqy en i st, [], [], [], [], 0, (an : Int)⟩).nm) (strOf (xqz L en K (0 : Nat) (xqo en i st) ⟨((0 : Nat) : Nat), xqu en (xqq en i st), xqy en i st, [], [], [], [], 0, (an : Int)⟩).ot) (strOf (xqz L en K (0 : Nat) (xqo en i st) ⟨((0 : Nat) : Nat), xqu en (xqq en i st), xqy en i st, [], [], [], [], 0, (an : Int)⟩).nu) (strOf (xqz L en K (0 : Nat) (xqo en i st) ⟨((0 : Nat) : Nat), xqu en (xqq en i st), xqy en i st, [], [], [], [], 0, (an : Int)⟩).va) (strOf (xqz L en K (0 : Nat) (xqo en i st) ⟨((0 : Nat) : Nat), xqu en (xqq en i st), xqy en i st, [], [], [], [], 0, (an : Int)⟩).un) A5 n5 c5 pl5 (xqz L en K (0 : Nat) (xqo en i st) ⟨((0 : Nat) : Nat), xqu en (xqq en i st), xqy en i st, [], [], [], [], 0, (an : Int)⟩).at'));rw [(xq9 L en K (0 : Nat) (xqo en i st) _).1, (xq9 L en K (0 : Nat) (xqo en i st) _).2.1, (xq9 L en K (0 : Nat) (xqo en i st) _).2.2.1, (xq9 L en K (0 : Nat) (xqo en i st) _).2.2.2];dsimp only;rw [hod.out, ← HNM.out]
   · intro e;rw [hsS] at e;rw [hdec];exact Hts.out (E_sgn e)
   · rw [hsS]; exact HF.out
 · have e0 : ((kk : Int) == 0) = false := by rw [beq_eq_false_iff_ne]; omega
   by_cases hi : 60 ≤ i
   · skip
     by_cases k3 : kk = 3
     · subst k3;have ei : (60 : Int) ≤ (i : Int) := by omega
       have hdP : yzw en i st = xjp 2 (a : Int) st := by unfold yzw; rw [Hkk.out, if_neg k0, if_pos hi, hp.out]
       have hfl := fun W => (xwt (k : Int) (strOf t) (a : Int) W).2.2
       clear hi;go_wp2_with fail
       refine (xjy H2.out hp.out).mono ?_;rintro e w3 ⟨rfl, bn⟩;have hg := xjb bn (some q);have H3 := hid (H2.out.below bn);have R3 := hid (gr_trans R2.out hg);have X3 := hid (X2.out.grown hg (fun e => hqr.out (by injection e)));have B3 : Hid (B ≤ w3.heap.size) := Nat.le_trans B2.out hg.size;clear bn hg;clear H2 R2 X2 B2;go_wp2_with fail
       refine (pFail_c H3.out 2 (a : Int) (by decide)).mono ?_;rintro e w4 ⟨rfl, h2, hg⟩;have H4 := hid h2;have R4 := hid (gr_trans R3.out hg);have X4 := hid (X3.out.grown hg (fun e => hqr.out (by injection e)));have B4 : Hid (B ≤ w4.heap.size) := Nat.le_trans B3.out hg.size;clear h2 hg;clear H3 R3 X3 B3;rw [← hdP] at H4;clear hfl;have HdP := hid hdP;clear hdP;go_wp2_with fail
       refine (xwa H4.out).mono ?_;rintro e w5 ⟨rfl, h2, hg⟩;have H5 := hid h2;have R5 := hid (gr_trans R4.out hg);have X5 := hid (X4.out.grown hg (fun e => hqr.out (by injection e)));have B5 : Hid (B ≤ w5.heap.size) := Nat.le_trans B4.out hg.size;clear h2 hg;clear H4 R4 X4 B4
       skip
       obtain ⟨⟨kn, tn, an⟩, hpn⟩ : ∃ t, t = pkS (xqq en i st) := ⟨_, rfl⟩;replace hpn := hid hpn.symm;have hfn := fun W => (xwt (kn : Int) (strOf tn) (an : Int) W).2.2
       have hd1 : rdS (yzw en i st) = xqq en i st := rfl;rw [hd1] at H5;clear hd1;obtain ⟨NM, hNM⟩ : ∃ X, X = strOf (xqu en (xqq en i st)) := ⟨_, rfl⟩;have HNM := hid hNM;clear hNM;go_wp2_with fail
       refine (xjy H5.out hpn.out).mono ?_;rintro e w6 ⟨rfl, bn⟩;have hg := xjb bn (some q);have H6 := hid (H5.out.below bn);have R6 := hid (gr_trans R5.out hg);have X6 := hid (X5.out.grown hg (fun e => hqr.out (by injection e)));have B6 : Hid (B ≤ w6.heap.size) := Nat.le_trans B5.out hg.size;clear bn hg;clear H5 R5 X5 B5;have HBd : Hid (∀ W, (Instr.build 62 ([(0, .int .i64 ((3 : Nat) : Int)), (8, .int .i64 (an : Int)), (1, .string NM)] : List (Nat × Value)).toArray).run Tryz.prog W = .ok (.agg (dcC ((3 : Nat) : Int) NM ⟨#[]⟩ ⟨#[]⟩ ⟨#[]⟩ ⟨#[]⟩ none 0 0 0 (an : Int))) W) := fun W => by kernel_rfl
       have HUd : Hid (xq7 Tryz.prog 62 (dcC ((3 : Nat) : Int) NM ⟨#[]⟩ ⟨#[]⟩ ⟨#[]⟩ ⟨#[]⟩ none 0 0 0 (an : Int)).size ∧ zDc.size = (dcC ((3 : Nat) : Int) NM ⟨#[]⟩ ⟨#[]⟩ ⟨#[]⟩ ⟨#[]⟩ none 0 0 0 (an : Int)).size ∧ ∀ v ∈ dcC ((3 : Nat) : Int) NM ⟨#[]⟩ ⟨#[]⟩ ⟨#[]⟩ ⟨#[]⟩ none 0 0 0 (an : Int), v.oneCell' = true) := ⟨xq3 _ _ _ _ _ _ _ _ _ _ _, rfl, by simp [Value.oneCell']⟩;go_wp2_with fail
       refine (yzi H6.out HNM.out.symm).mono ?_;rintro e w7 ⟨rfl, h2, hg⟩;have H7 := hid h2;have R7 := hid (gr_trans R6.out hg);have X7 := hid (X6.out.grown hg (fun e => hqr.out (by injection e)));have B7 : Hid (B ≤ w7.heap.size) := Nat.le_trans B6.out hg.size;clear h2 hg;clear H6 R6 X6 B6;have hd2 : yj2 en (xqq en i st) = ywb en i st := rfl;rw [hd2] at H7;clear hd2;have bn := xqc w7 (.cells (dcC ((3 : Nat) : Int) NM ⟨#[]⟩ ⟨#[]⟩ ⟨#[]⟩ ⟨#[]⟩ none 0 0 0 (an : Int)) 62);have hg := xjb bn (some q);have H8 := hid (H7.out.below bn);have hqd2 : Hid (q < w7.heap.size) := H7.out.lt;have hqd : Hid (q ≠ w7.heap.size) := by show _ ≠ _; have := H7.out.lt; omega
       have hrd : Hid (gr ≠ w7.heap.size) := by show _ ≠ _; have := X7.out.lt; omega
       have D8 := hid (xqd w7 62 (dcC ((3 : Nat) : Int) NM ⟨#[]⟩ ⟨#[]⟩ ⟨#[]⟩ ⟨#[]⟩ none 0 0 0 (an : Int)));have hwd : Hid (w.heap.size ≤ w7.heap.size) := R7.out.size;have R8 := hid (gr_trans R7.out hg);have X8 := hid (X7.out.below bn);have B8 : Hid (B ≤ (w7.alloc (.cells (dcC ((3 : Nat) : Int) NM ⟨#[]⟩ ⟨#[]⟩ ⟨#[]⟩ ⟨#[]⟩ none 0 0 0 (an : Int)) 62)).heap.size) := Nat.le_trans B7.out bn.size;clear bn hg H7 R7 X7 B7;go_wp2_with (first | (refine xqn (by rfl) _ _ (by rfl) _ (by rfl) _ (by assumption) ?_) | (refine xqg (by rfl) _ _ _ (by rfl) _ _ _ (by rfl) (by rfl) (by assumption) ?_; generalize w7.alloc (.cells (dcC ((3 : Nat) : Int) NM ⟨#[]⟩ ⟨#[]⟩ ⟨#[]⟩ ⟨#[]⟩ none 0 0 0 (an : Int)) 62) = w8 at *));obtain ⟨gd, hgd⟩ : ∃ g, g = w7.heap.size := ⟨_, rfl⟩;rw [← hgd] at hqd hqd2 hrd hwd D8 ⊢;clear hgd HBd HUd hfn;obtain ⟨OT, hOT⟩ : ∃ X, X = strOf (xqu en (ywb en i st)) := ⟨_, rfl⟩;have HOT := hid hOT;clear hOT;go_wp2_with fail
       refine (yzi H8.out HOT.out.symm).mono ?_;rintro e w9 ⟨rfl, h2, hg⟩;have H9 := hid h2;have R9 := hid (gr_trans R8.out hg);have X9 := hid (X8.out.grown hg (fun e => hqr.out (by injection e)));have B9 : Hid (B ≤ w9.heap.size) := Nat.le_trans B8.out hg.size;have D9 := hid (D8.out.grown hg (fun e => hqd.out (by injection e)));clear h2 hg;clear H8 R8 X8 B8 D8;have ck := D9.out.cell (k := 2) (v := .string ⟨#[]⟩) rfl;have fk := D9.out.free 2;have hg := xqs w9 gd 2 (.string OT);have hd3 : Hid (yj2 en (ywb en i st) = yj5 en i st) := by show _ = _; unfold yj5; rw [Hkk.out]; rfl
       have hod : Hid (strOf (xqy en i st) = OT) := by show _ = _; unfold xqy; rw [Hkk.out, if_pos rfl]; exact HOT.out.symm
       have H10 := hid (H9.out.setD D9.out hqd2.out 2 (.string OT));rw [hd3.out] at H10;have D10 : Hid (RowA (w9.setCell ⟨gd, 2, none⟩ (.string OT)) gd 62 (dcC ((3 : Nat) : Int) NM OT ⟨#[]⟩ ⟨#[]⟩ ⟨#[]⟩ none 0 0 0 (an : Int))) := D9.out.set 2 (.string OT);have R10 := hid (gr_new R9.out hwd.out 2 (.string OT));have X10 := hid (X9.out.grown hg (fun e => hrd.out (by injection e with e; exact e.symm)));have B10 : Hid (B ≤ (w9.setCell ⟨gd, 2, none⟩ (.string OT)).heap.size) := by show _ ≤ _; rw [World.size_setCell]; exact B9.out
       clear hg H9 D9 R9 X9 B9;go_wp2_with fail
       generalize w9.setCell ⟨gd, 2, none⟩ (.string OT) = w10 at *;clear ck fk;go_wp2_with fail
       refine (xvl H10.out 61 (by decide)).mono ?_;rintro e w11 ⟨rfl, h2, hg⟩;have H11 := hid h2;have R11 := hid (gr_trans R10.out hg);have X11 := hid (X10.out.grown hg (fun e => hqr.out (by injection e)));have B11 : Hid (B ≤ w11.heap.size) := Nat.le_trans B10.out hg.size;have D11 := hid (D10.out.grown hg (fun e => hqd.out (by injection e)));clear h2 hg;clear H10 R10 X10 B10 D10;have hd4 : xvi en [61] (yj5 en i st) = xqo en i st := rfl;rw [hd4] at H11;clear hd4;go_wp2_with fail
       refine (zqr H11.out B11.out hl.out HFu.out hqd2.out D11.out ⟨((3 : Nat) : Nat), xqu en (xqq en i st), xqy en i st, [], [], [], [], 0, (an : Int)⟩ ⟨rfl, rfl, rfl, rfl, rfl⟩).mono ?_;rintro e w12 ⟨rfl, A5, n5, c5, ts5, pl5, Bz, hD, hT, hts, h2, hBz, hgd⟩;have hrr := hgd.row X11.out (Ne.symm hqr.out) hrd.out;have H12 := hid h2;have D12 := hid hD;have R12 := hid (gd_gr R11.out hgd hwd.out);have X12 := hid hrr;have B12 := hid hBz;have T12 := hid hT;have Hts := hid hts;clear hD hT hts h2 hBz hgd hrr;clear H11 R11 X11 B11 D11;go_wp2_with fail
       refine (xvl H12.out 59 (by decide)).mono ?_;rintro e w13 ⟨rfl, h2, hg⟩;have H13 := hid h2;have R13 := hid (gr_trans R12.out hg);have X13 := hid (X12.out.grown hg (fun e => hqr.out (by injection e)));have B13 : Hid (Bz ≤ w13.heap.size) := Nat.le_trans B12.out hg.size;have D13 := hid (D12.out.grown hg (fun e => hqd.out (by injection e)));have T13 := hid (T12.out.over (RdW.size H12.out).choose_spec.choose_spec.choose_spec.choose_spec.choose_spec.choose_spec yju hg);clear h2 hg;clear H12 R12 X12 B12 D12 T12;have HI := hid D13.out.inV;have HM := hid (xq3 ((3 : Nat) : Int) NM OT (strOf (xqz L en K (3 : Nat) (xqo en i st) ⟨((3 : Nat) : Nat), xqu en (xqq en i st), xqy en i st, [], [], [], [], 0, (an : Int)⟩).nu) (strOf (xqz L en K (3 : Nat) (xqo en i st) ⟨((3 : Nat) : Nat), xqu en (xqq en i st), xqy en i st, [], [], [], [], 0, (an : Int)⟩).va) (strOf (xqz L en K (3 : Nat) (xqo en i st) ⟨((3 : Nat) : Nat), xqu en (xqq en i st), xqy en i st, [], [], [], [], 0, (an : Int)⟩).un) A5 n5 c5 pl5 (an : Int));have HU : Hid (xq7 Tryz.prog 62 (dcC ((3 : Nat) : Int) NM OT (strOf (xqz L en K (3 : Nat) (xqo en i st) ⟨((3 : Nat) : Nat), xqu en (xqq en i st), xqy en i st, [], [], [], [], 0, (an : Int)⟩).nu) (strOf (xqz L en K (3 : Nat) (xqo en i st) ⟨((3 : Nat) : Nat), xqu en (xqq en i st), xqy en i st, [], [], [], [], 0, (an : Int)⟩).va) (strOf (xqz L en K (3 : Nat) (xqo en i st) ⟨((3 : Nat) : Nat), xqu en (xqq en i st), xqy en i st, [], [], [], [], 0, (an : Int)⟩).un) A5 n5 c5 pl5 (an : Int)).size ∧ zDc.size = (dcC ((3 : Nat) : Int) NM OT (strOf (xqz L en K (3 : Nat) (xqo en i st) ⟨((3 : Nat) : Nat), xqu en (xqq en i st), xqy en i st, [], [], [], [], 0, (an : Int)⟩).nu) (strOf (xqz L en K (3 : Nat) (xqo en i st) ⟨((3 : Nat) : Nat), xqu en (xqq en i st), xqy en i st, [], [], [], [], 0, (an : Int)⟩).va) (strOf (xqz L en K (3 : Nat) (xqo en i st) ⟨((3 : Nat) : Nat), xqu en (xqq en i st), xqy en i st, [], [], [], [], 0, (an : Int)⟩).un) A5 n5 c5 pl5 (an : Int)).size ∧ ∀ v ∈ dcC ((3 : Nat) : Int) NM OT (strOf (xqz L en K (3 : Nat) (xqo en i st) ⟨((3 : Nat) : Nat), xqu en (xqq en i st), xqy en i st, [], [], [], [], 0, (an : Int)⟩).nu) (strOf (xqz L en K (3 : Nat) (xqo en i st) ⟨((3 : Nat) : Nat), xqu en (xqq en i st), xqy en i st, [], [], [], [], 0, (an : Int)⟩).va) (strOf (xqz L en K (3 : Nat) (xqo en i st) ⟨((3 : Nat) : Nat), xqu en (xqq en i st), xqy en i st, [], [], [], [], 0, (an : Int)⟩).un) A5 n5 c5 pl5 (an : Int), v.oneCell' = true) := ⟨xq3 _ _ _ _ _ _ _ _ _ _ _, rfl, by simp [Value.oneCell']⟩
       have HRf := hid (RowA.fill X13.out (V' := dcC ((3 : Nat) : Int) NM OT (strOf (xqz L en K (3 : Nat) (xqo en i st) ⟨((3 : Nat) : Nat), xqu en (xqq en i st), xqy en i st, [], [], [], [], 0, (an : Int)⟩).nu) (strOf (xqz L en K (3 : Nat) (xqo en i st) ⟨((3 : Nat) : Nat), xqu en (xqq en i st), xqy en i st, [], [], [], [], 0, (an : Int)⟩).va) (strOf (xqz L en K (3 : Nat) (xqo en i st) ⟨((3 : Nat) : Nat), xqu en (xqq en i st), xqy en i st, [], [], [], [], 0, (an : Int)⟩).un) A5 n5 c5 pl5 (an : Int)));have hgr2 := ywo w13 gr (dcC ((3 : Nat) : Int) NM OT (strOf (xqz L en K (3 : Nat) (xqo en i st) ⟨((3 : Nat) : Nat), xqu en (xqq en i st), xqy en i st, [], [], [], [], 0, (an : Int)⟩).nu) (strOf (xqz L en K (3 : Nat) (xqo en i st) ⟨((3 : Nat) : Nat), xqu en (xqq en i st), xqy en i st, [], [], [], [], 0, (an : Int)⟩).va) (strOf (xqz L en K (3 : Nat) (xqo en i st) ⟨((3 : Nat) : Nat), xqu en (xqq en i st), xqy en i st, [], [], [], [], 0, (an : Int)⟩).un) A5 n5 c5 pl5 (an : Int));have HF := hid (H13.out.oth X13.out (by decide) (by decide) hqr2.out hgr2);have HT := hid (T13.out.over X13.out (by decide) hgr2);have HR := hid (yqu R13.out (Nat.le_of_eq Hgr.out.symm) (dcC ((3 : Nat) : Int) NM OT (strOf (xqz L en K (3 : Nat) (xqo en i st) ⟨((3 : Nat) : Nat), xqu en (xqq en i st), xqy en i st, [], [], [], [], 0, (an : Int)⟩).nu) (strOf (xqz L en K (3 : Nat) (xqo en i st) ⟨((3 : Nat) : Nat), xqu en (xqq en i st), xqy en i st, [], [], [], [], 0, (an : Int)⟩).va) (strOf (xqz L en K (3 : Nat) (xqo en i st) ⟨((3 : Nat) : Nat), xqu en (xqq en i st), xqy en i st, [], [], [], [], 0, (an : Int)⟩).un) A5 n5 c5 pl5 (an : Int)))
       have HB : Hid (Bz ≤ (w13.setRow gr (dcC ((3 : Nat) : Int) NM OT (strOf (xqz L en K (3 : Nat) (xqo en i st) ⟨((3 : Nat) : Nat), xqu en (xqq en i st), xqy en i st, [], [], [], [], 0, (an : Int)⟩).nu) (strOf (xqz L en K (3 : Nat) (xqo en i st) ⟨((3 : Nat) : Nat), xqu en (xqq en i st), xqy en i st, [], [], [], [], 0, (an : Int)⟩).va) (strOf (xqz L en K (3 : Nat) (xqo en i st) ⟨((3 : Nat) : Nat), xqu en (xqq en i st), xqy en i st, [], [], [], [], 0, (an : Int)⟩).un) A5 n5 c5 pl5 (an : Int))).heap.size) := by show _ ≤ _; rw [setRow_size]; exact B13.out
       clear hgr2;go_wp2_with (first | (refine xqf (by rfl) _ _ (by rfl) _ _ (by rfl) _ (by assumption) (by assumption) ?_) | (refine xqi (by rfl) _ _ _ (by rfl) _ (by rfl) _ (by rfl) _ _ (by assumption) (by assumption) ?_));refine bodyPost_ret (results_cell_row rfl _ _ _ 62 (dcC ((3 : Nat) : Int) NM OT (strOf (xqz L en K (3 : Nat) (xqo en i st) ⟨((3 : Nat) : Nat), xqu en (xqq en i st), xqy en i st, [], [], [], [], 0, (an : Int)⟩).nu) (strOf (xqz L en K (3 : Nat) (xqo en i st) ⟨((3 : Nat) : Nat), xqu en (xqq en i st), xqy en i st, [], [], [], [], 0, (an : Int)⟩).va) (strOf (xqz L en K (3 : Nat) (xqo en i st) ⟨((3 : Nat) : Nat), xqu en (xqq en i st), xqy en i st, [], [], [], [], 0, (an : Int)⟩).un) A5 n5 c5 pl5 (an : Int)) (0, 0) _ rfl HRf.out Tryz.underlying62 rfl yq7) rfl ?_;have hk0 : xve (pkS st) = (3 : Nat) := Hkk.out;have hdec : zjg L en K i st = xqz L en K (3 : Nat) (xqo en i st) ⟨((3 : Nat) : Nat), xqu en (xqq en i st), xqy en i st, [], [], [], [], 0, (an : Int)⟩ := by
        unfold zjg dec0;rw [hk0, hpn.out]
       have hsS : yqj L en K i st = xvi en [59] (bodS L en K (3 : Nat) (xqo en i st)) := by unfold yqj dec5; rw [hk0]
       refine ⟨A5, n5, c5, ts5, pl5, Bz, ?_, HT.out, ?_, ?_, HB.out, HR.out⟩
       · rw [hdec];show _ = Ending.returned (.agg (dcC (xqz L en K (3 : Nat) (xqo en i st) ⟨((3 : Nat) : Nat), xqu en (xqq en i st), xqy en i st, [], [], [], [], 0, (an : Int)⟩).k (strOf (xqz L en K (3 : Nat) (xqo en i st) ⟨((3 : Nat) : Nat), xqu en (xqq en i st), xqy en i st, [], [], [], [], 0, (an : Int)⟩).nm) (strOf (xqz L en K (3 : Nat) (xqo en i st) ⟨((3 : Nat) : Nat), xqu en (xqq en i st), xqy en i st, [], [], [], [], 0, (an : Int)⟩).ot) (strOf (xqz L en K (3 : Nat) (xqo en i st) ⟨((3 : Nat) : Nat), xqu en (xqq en i st), xqy en i st, [], [], [], [], 0, (an : Int)⟩).nu) (strOf (xqz L en K (3 : Nat) (xqo en i st) ⟨((3 : Nat) : Nat), xqu en (xqq en i st), xqy en i st, [], [], [], [], 0, (an : Int)⟩).va) (strOf (xqz L en K (3 : Nat) (xqo en i st) ⟨((3 : Nat) : Nat), xqu en (xqq en i st), xqy en i st, [], [], [], [], 0, (an : Int)⟩).un) A5 n5 c5 pl5 (xqz L en K (3 : Nat) (xqo en i st) ⟨((3 : Nat) : Nat), xqu en (xqq en i st), xqy en i st, [], [], [], [], 0, (an : Int)⟩).at'));rw [(xq9 L en K (3 : Nat) (xqo en i st) _).1, (xq9 L en K (3 : Nat) (xqo en i st) _).2.1, (xq9 L en K (3 : Nat) (xqo en i st) _).2.2.1, (xq9 L en K (3 : Nat) (xqo en i st) _).2.2.2];dsimp only;rw [hod.out, ← HNM.out]
       · intro e;rw [hsS] at e;rw [hdec];exact Hts.out (E_sgn e)
       · rw [hsS]; exact HF.out
     · have e3 : ((kk : Int) == 3) = false := by rw [beq_eq_false_iff_ne]; omega
       have ei : (60 : Int) ≤ (i : Int) := by omega
       have hdP : yzw en i st = xjp 2 (a : Int) st := by unfold yzw; rw [Hkk.out, if_neg k0, if_pos hi, hp.out]
       have hfl := fun W => (xwt (k : Int) (strOf t) (a : Int) W).2.2
       clear hi;go_wp2_with fail
       refine (xjy H2.out hp.out).mono ?_;rintro e w3 ⟨rfl, bn⟩;have hg := xjb bn (some q);have H3 := hid (H2.out.below bn);have R3 := hid (gr_trans R2.out hg);have X3 := hid (X2.out.grown hg (fun e => hqr.out (by injection e)));have B3 : Hid (B ≤ w3.heap.size) := Nat.le_trans B2.out hg.size;clear bn hg;clear H2 R2 X2 B2;go_wp2_with fail
       refine (pFail_c H3.out 2 (a : Int) (by decide)).mono ?_;rintro e w4 ⟨rfl, h2, hg⟩;have H4 := hid h2;have R4 := hid (gr_trans R3.out hg);have X4 := hid (X3.out.grown hg (fun e => hqr.out (by injection e)));have B4 : Hid (B ≤ w4.heap.size) := Nat.le_trans B3.out hg.size;clear h2 hg;clear H3 R3 X3 B3;rw [← hdP] at H4;clear hfl;have HdP := hid hdP;clear hdP;go_wp2_with fail
       refine (xwa H4.out).mono ?_;rintro e w5 ⟨rfl, h2, hg⟩;have H5 := hid h2;have R5 := hid (gr_trans R4.out hg);have X5 := hid (X4.out.grown hg (fun e => hqr.out (by injection e)));have B5 : Hid (B ≤ w5.heap.size) := Nat.le_trans B4.out hg.size;clear h2 hg;clear H4 R4 X4 B4
       skip
       obtain ⟨⟨kn, tn, an⟩, hpn⟩ : ∃ t, t = pkS (xqq en i st) := ⟨_, rfl⟩;replace hpn := hid hpn.symm;have hfn := fun W => (xwt (kn : Int) (strOf tn) (an : Int) W).2.2
       have hd1 : rdS (yzw en i st) = xqq en i st := rfl;rw [hd1] at H5;clear hd1;obtain ⟨NM, hNM⟩ : ∃ X, X = strOf (xqu en (xqq en i st)) := ⟨_, rfl⟩;have HNM := hid hNM;clear hNM;go_wp2_with fail
       refine (xjy H5.out hpn.out).mono ?_;rintro e w6 ⟨rfl, bn⟩;have hg := xjb bn (some q);have H6 := hid (H5.out.below bn);have R6 := hid (gr_trans R5.out hg);have X6 := hid (X5.out.grown hg (fun e => hqr.out (by injection e)));have B6 : Hid (B ≤ w6.heap.size) := Nat.le_trans B5.out hg.size;clear bn hg;clear H5 R5 X5 B5;have HBd : Hid (∀ W, (Instr.build 62 ([(0, .int .i64 (kk : Int)), (8, .int .i64 (an : Int)), (1, .string NM)] : List (Nat × Value)).toArray).run Tryz.prog W = .ok (.agg (dcC (kk : Int) NM ⟨#[]⟩ ⟨#[]⟩ ⟨#[]⟩ ⟨#[]⟩ none 0 0 0 (an : Int))) W) := fun W => by kernel_rfl
       have HUd : Hid (xq7 Tryz.prog 62 (dcC (kk : Int) NM ⟨#[]⟩ ⟨#[]⟩ ⟨#[]⟩ ⟨#[]⟩ none 0 0 0 (an : Int)).size ∧ zDc.size = (dcC (kk : Int) NM ⟨#[]⟩ ⟨#[]⟩ ⟨#[]⟩ ⟨#[]⟩ none 0 0 0 (an : Int)).size ∧ ∀ v ∈ dcC (kk : Int) NM ⟨#[]⟩ ⟨#[]⟩ ⟨#[]⟩ ⟨#[]⟩ none 0 0 0 (an : Int), v.oneCell' = true) := ⟨xq3 _ _ _ _ _ _ _ _ _ _ _, rfl, by simp [Value.oneCell']⟩;go_wp2_with fail
       refine (yzi H6.out HNM.out.symm).mono ?_;rintro e w7 ⟨rfl, h2, hg⟩;have H7 := hid h2;have R7 := hid (gr_trans R6.out hg);have X7 := hid (X6.out.grown hg (fun e => hqr.out (by injection e)));have B7 : Hid (B ≤ w7.heap.size) := Nat.le_trans B6.out hg.size;clear h2 hg;clear H6 R6 X6 B6;have hd2 : yj2 en (xqq en i st) = ywb en i st := rfl;rw [hd2] at H7;clear hd2;have bn := xqc w7 (.cells (dcC (kk : Int) NM ⟨#[]⟩ ⟨#[]⟩ ⟨#[]⟩ ⟨#[]⟩ none 0 0 0 (an : Int)) 62);have hg := xjb bn (some q);have H8 := hid (H7.out.below bn);have hqd2 : Hid (q < w7.heap.size) := H7.out.lt;have hqd : Hid (q ≠ w7.heap.size) := by show _ ≠ _; have := H7.out.lt; omega
       have hrd : Hid (gr ≠ w7.heap.size) := by show _ ≠ _; have := X7.out.lt; omega
       have D8 := hid (xqd w7 62 (dcC (kk : Int) NM ⟨#[]⟩ ⟨#[]⟩ ⟨#[]⟩ ⟨#[]⟩ none 0 0 0 (an : Int)));have hwd : Hid (w.heap.size ≤ w7.heap.size) := R7.out.size;have R8 := hid (gr_trans R7.out hg);have X8 := hid (X7.out.below bn);have B8 : Hid (B ≤ (w7.alloc (.cells (dcC (kk : Int) NM ⟨#[]⟩ ⟨#[]⟩ ⟨#[]⟩ ⟨#[]⟩ none 0 0 0 (an : Int)) 62)).heap.size) := Nat.le_trans B7.out bn.size;clear bn hg H7 R7 X7 B7;go_wp2_with (first | (refine xqn (by rfl) _ _ (by rfl) _ (by rfl) _ (by assumption) ?_) | (refine xqg (by rfl) _ _ _ (by rfl) _ _ _ (by rfl) (by rfl) (by assumption) ?_; generalize w7.alloc (.cells (dcC (kk : Int) NM ⟨#[]⟩ ⟨#[]⟩ ⟨#[]⟩ ⟨#[]⟩ none 0 0 0 (an : Int)) 62) = w8 at *));obtain ⟨gd, hgd⟩ : ∃ g, g = w7.heap.size := ⟨_, rfl⟩;rw [← hgd] at hqd hqd2 hrd hwd D8 ⊢;clear hgd HBd HUd hfn;have hd3 : Hid (ywb en i st = yj5 en i st) := by show _ = _; unfold yj5; rw [Hkk.out, if_neg (by omega)]
       have hod : Hid (strOf (xqy en i st) = ⟨#[]⟩) := by show _ = _; unfold xqy; rw [Hkk.out, if_neg (by omega)]; rfl
       rw [hd3.out] at H8;go_wp2_with fail
       refine (xvl H8.out 61 (by decide)).mono ?_;rintro e w9 ⟨rfl, h2, hg⟩;have H9 := hid h2;have R9 := hid (gr_trans R8.out hg);have X9 := hid (X8.out.grown hg (fun e => hqr.out (by injection e)));have B9 : Hid (B ≤ w9.heap.size) := Nat.le_trans B8.out hg.size;have D9 := hid (D8.out.grown hg (fun e => hqd.out (by injection e)));clear h2 hg;clear H8 R8 X8 B8 D8;have hd4 : xvi en [61] (yj5 en i st) = xqo en i st := rfl;rw [hd4] at H9;clear hd4;go_wp2_with fail
       refine (zqr H9.out B9.out hl.out HFu.out hqd2.out D9.out ⟨(kk : Nat), xqu en (xqq en i st), xqy en i st, [], [], [], [], 0, (an : Int)⟩ ⟨rfl, rfl, rfl, rfl, rfl⟩).mono ?_;rintro e w10 ⟨rfl, A5, n5, c5, ts5, pl5, Bz, hD, hT, hts, h2, hBz, hgd⟩;have hrr := hgd.row X9.out (Ne.symm hqr.out) hrd.out;have H10 := hid h2;have D10 := hid hD;have R10 := hid (gd_gr R9.out hgd hwd.out);have X10 := hid hrr;have B10 := hid hBz;have T10 := hid hT;have Hts := hid hts;clear hD hT hts h2 hBz hgd hrr;clear H9 R9 X9 B9 D9;go_wp2_with fail
       refine (xvl H10.out 59 (by decide)).mono ?_;rintro e w11 ⟨rfl, h2, hg⟩;have H11 := hid h2;have R11 := hid (gr_trans R10.out hg);have X11 := hid (X10.out.grown hg (fun e => hqr.out (by injection e)));have B11 : Hid (Bz ≤ w11.heap.size) := Nat.le_trans B10.out hg.size;have D11 := hid (D10.out.grown hg (fun e => hqd.out (by injection e)));have T11 := hid (T10.out.over (RdW.size H10.out).choose_spec.choose_spec.choose_spec.choose_spec.choose_spec.choose_spec yju hg);clear h2 hg;clear H10 R10 X10 B10 D10 T10;have HI := hid D11.out.inV;have HM := hid (xq3 (kk : Int) NM ⟨#[]⟩ (strOf (xqz L en K kk (xqo en i st) ⟨(kk : Nat), xqu en (xqq en i st), xqy en i st, [], [], [], [], 0, (an : Int)⟩).nu) (strOf (xqz L en K kk (xqo en i st) ⟨(kk : Nat), xqu en (xqq en i st), xqy en i st, [], [], [], [], 0, (an : Int)⟩).va) (strOf (xqz L en K kk (xqo en i st) ⟨(kk : Nat), xqu en (xqq en i st), xqy en i st, [], [], [], [], 0, (an : Int)⟩).un) A5 n5 c5 pl5 (an : Int));have HU : Hid (xq7 Tryz.prog 62 (dcC (kk : Int) NM ⟨#[]⟩ (strOf (xqz L en K kk (xqo en i st) ⟨(kk : Nat), xqu en (xqq en i st), xqy en i st, [], [], [], [], 0, (an : Int)⟩).nu) (strOf (xqz L en K kk (xqo en i st) ⟨(kk : Nat), xqu en (xqq en i st), xqy en i st, [], [], [], [], 0, (an : Int)⟩).va) (strOf (xqz L en K kk (xqo en i st) ⟨(kk : Nat), xqu en (xqq en i st), xqy en i st, [], [], [], [], 0, (an : Int)⟩).un) A5 n5 c5 pl5 (an : Int)).size ∧ zDc.size = (dcC (kk : Int) NM ⟨#[]⟩ (strOf (xqz L en K kk (xqo en i st) ⟨(kk : Nat), xqu en (xqq en i st), xqy en i st, [], [], [], [], 0, (an : Int)⟩).nu) (strOf (xqz L en K kk (xqo en i st) ⟨(kk : Nat), xqu en (xqq en i st), xqy en i st, [], [], [], [], 0, (an : Int)⟩).va) (strOf (xqz L en K kk (xqo en i st) ⟨(kk : Nat), xqu en (xqq en i st), xqy en i st, [], [], [], [], 0, (an : Int)⟩).un) A5 n5 c5 pl5 (an : Int)).size ∧ ∀ v ∈ dcC (kk : Int) NM ⟨#[]⟩ (strOf (xqz L en K kk (xqo en i st) ⟨(kk : Nat), xqu en (xqq en i st), xqy en i st, [], [], [], [], 0, (an : Int)⟩).nu) (strOf (xqz L en K kk (xqo en i st) ⟨(kk : Nat), xqu en (xqq en i st), xqy en i st, [], [], [], [], 0, (an : Int)⟩).va) (strOf (xqz L en K kk (xqo en i st) ⟨(kk : Nat), xqu en (xqq en i st), xqy en i st, [], [], [], [], 0, (an : Int)⟩).un) A5 n5 c5 pl5 (an : Int), v.oneCell' = true) := ⟨xq3 _ _ _ _ _ _ _ _ _ _ _, rfl, by simp [Value.oneCell']⟩
       have HRf := hid (RowA.fill X11.out (V' := dcC (kk : Int) NM ⟨#[]⟩ (strOf (xqz L en K kk (xqo en i st) ⟨(kk : Nat), xqu en (xqq en i st), xqy en i st, [], [], [], [], 0, (an : Int)⟩).nu) (strOf (xqz L en K kk (xqo en i st) ⟨(kk : Nat), xqu en (xqq en i st), xqy en i st, [], [], [], [], 0, (an : Int)⟩).va) (strOf (xqz L en K kk (xqo en i st) ⟨(kk : Nat), xqu en (xqq en i st), xqy en i st, [], [], [], [], 0, (an : Int)⟩).un) A5 n5 c5 pl5 (an : Int)));have hgr2 := ywo w11 gr (dcC (kk : Int) NM ⟨#[]⟩ (strOf (xqz L en K kk (xqo en i st) ⟨(kk : Nat), xqu en (xqq en i st), xqy en i st, [], [], [], [], 0, (an : Int)⟩).nu) (strOf (xqz L en K kk (xqo en i st) ⟨(kk : Nat), xqu en (xqq en i st), xqy en i st, [], [], [], [], 0, (an : Int)⟩).va) (strOf (xqz L en K kk (xqo en i st) ⟨(kk : Nat), xqu en (xqq en i st), xqy en i st, [], [], [], [], 0, (an : Int)⟩).un) A5 n5 c5 pl5 (an : Int));have HF := hid (H11.out.oth X11.out (by decide) (by decide) hqr2.out hgr2);have HT := hid (T11.out.over X11.out (by decide) hgr2);have HR := hid (yqu R11.out (Nat.le_of_eq Hgr.out.symm) (dcC (kk : Int) NM ⟨#[]⟩ (strOf (xqz L en K kk (xqo en i st) ⟨(kk : Nat), xqu en (xqq en i st), xqy en i st, [], [], [], [], 0, (an : Int)⟩).nu) (strOf (xqz L en K kk (xqo en i st) ⟨(kk : Nat), xqu en (xqq en i st), xqy en i st, [], [], [], [], 0, (an : Int)⟩).va) (strOf (xqz L en K kk (xqo en i st) ⟨(kk : Nat), xqu en (xqq en i st), xqy en i st, [], [], [], [], 0, (an : Int)⟩).un) A5 n5 c5 pl5 (an : Int)))
       have HB : Hid (Bz ≤ (w11.setRow gr (dcC (kk : Int) NM ⟨#[]⟩ (strOf (xqz L en K kk (xqo en i st) ⟨(kk : Nat), xqu en (xqq en i st), xqy en i st, [], [], [], [], 0, (an : Int)⟩).nu) (strOf (xqz L en K kk (xqo en i st) ⟨(kk : Nat), xqu en (xqq en i st), xqy en i st, [], [], [], [], 0, (an : Int)⟩).va) (strOf (xqz L en K kk (xqo en i st) ⟨(kk : Nat), xqu en (xqq en i st), xqy en i st, [], [], [], [], 0, (an : Int)⟩).un) A5 n5 c5 pl5 (an : Int))).heap.size) := by show _ ≤ _; rw [setRow_size]; exact B11.out
       clear hgr2;go_wp2_with (first | (refine xqf (by rfl) _ _ (by rfl) _ _ (by rfl) _ (by assumption) (by assumption) ?_) | (refine xqi (by rfl) _ _ _ (by rfl) _ (by rfl) _ (by rfl) _ _ (by assumption) (by assumption) ?_));refine bodyPost_ret (results_cell_row rfl _ _ _ 62 (dcC (kk : Int) NM ⟨#[]⟩ (strOf (xqz L en K kk (xqo en i st) ⟨(kk : Nat), xqu en (xqq en i st), xqy en i st, [], [], [], [], 0, (an : Int)⟩).nu) (strOf (xqz L en K kk (xqo en i st) ⟨(kk : Nat), xqu en (xqq en i st), xqy en i st, [], [], [], [], 0, (an : Int)⟩).va) (strOf (xqz L en K kk (xqo en i st) ⟨(kk : Nat), xqu en (xqq en i st), xqy en i st, [], [], [], [], 0, (an : Int)⟩).un) A5 n5 c5 pl5 (an : Int)) (0, 0) _ rfl HRf.out Tryz.underlying62 rfl yq7) rfl ?_;have hk0 : xve (pkS st) = kk := Hkk.out;have hdec : zjg L en K i st = xqz L en K kk (xqo en i st) ⟨(kk : Nat), xqu en (xqq en i st), xqy en i st, [], [], [], [], 0, (an : Int)⟩ := by
        unfold zjg dec0;rw [hk0, hpn.out]
       have hsS : yqj L en K i st = xvi en [59] (bodS L en K kk (xqo en i st)) := by unfold yqj dec5; rw [hk0]
       refine ⟨A5, n5, c5, ts5, pl5, Bz, ?_, HT.out, ?_, ?_, HB.out, HR.out⟩
       · rw [hdec];show _ = Ending.returned (.agg (dcC (xqz L en K kk (xqo en i st) ⟨(kk : Nat), xqu en (xqq en i st), xqy en i st, [], [], [], [], 0, (an : Int)⟩).k (strOf (xqz L en K kk (xqo en i st) ⟨(kk : Nat), xqu en (xqq en i st), xqy en i st, [], [], [], [], 0, (an : Int)⟩).nm) (strOf (xqz L en K kk (xqo en i st) ⟨(kk : Nat), xqu en (xqq en i st), xqy en i st, [], [], [], [], 0, (an : Int)⟩).ot) (strOf (xqz L en K kk (xqo en i st) ⟨(kk : Nat), xqu en (xqq en i st), xqy en i st, [], [], [], [], 0, (an : Int)⟩).nu) (strOf (xqz L en K kk (xqo en i st) ⟨(kk : Nat), xqu en (xqq en i st), xqy en i st, [], [], [], [], 0, (an : Int)⟩).va) (strOf (xqz L en K kk (xqo en i st) ⟨(kk : Nat), xqu en (xqq en i st), xqy en i st, [], [], [], [], 0, (an : Int)⟩).un) A5 n5 c5 pl5 (xqz L en K kk (xqo en i st) ⟨(kk : Nat), xqu en (xqq en i st), xqy en i st, [], [], [], [], 0, (an : Int)⟩).at'));rw [(xq9 L en K kk (xqo en i st) _).1, (xq9 L en K kk (xqo en i st) _).2.1, (xq9 L en K kk (xqo en i st) _).2.2.1, (xq9 L en K kk (xqo en i st) _).2.2.2];dsimp only;rw [hod.out, ← HNM.out]
       · intro e;rw [hsS] at e;rw [hdec];exact Hts.out (E_sgn e)
       · rw [hsS]; exact HF.out
   · skip
     by_cases k3 : kk = 3
     · subst k3;have ei : ¬ (60 : Int) ≤ (i : Int) := by omega
       have hdP : yzw en i st = st := by unfold yzw; rw [Hkk.out, if_neg k0, if_neg hi]
       clear hi;rw [← hdP] at H2;have HdP := hid hdP;clear hdP;go_wp2_with fail
       refine (xwa H2.out).mono ?_;rintro e w3 ⟨rfl, h2, hg⟩;have H3 := hid h2;have R3 := hid (gr_trans R2.out hg);have X3 := hid (X2.out.grown hg (fun e => hqr.out (by injection e)));have B3 : Hid (B ≤ w3.heap.size) := Nat.le_trans B2.out hg.size;clear h2 hg;clear H2 R2 X2 B2
       skip
       obtain ⟨⟨kn, tn, an⟩, hpn⟩ : ∃ t, t = pkS (xqq en i st) := ⟨_, rfl⟩;replace hpn := hid hpn.symm;have hfn := fun W => (xwt (kn : Int) (strOf tn) (an : Int) W).2.2
       have hd1 : rdS (yzw en i st) = xqq en i st := rfl;rw [hd1] at H3;clear hd1;obtain ⟨NM, hNM⟩ : ∃ X, X = strOf (xqu en (xqq en i st)) := ⟨_, rfl⟩;have HNM := hid hNM;clear hNM;go_wp2_with fail
       refine (xjy H3.out hpn.out).mono ?_;rintro e w4 ⟨rfl, bn⟩;have hg := xjb bn (some q);have H4 := hid (H3.out.below bn);have R4 := hid (gr_trans R3.out hg);have X4 := hid (X3.out.grown hg (fun e => hqr.out (by injection e)));have B4 : Hid (B ≤ w4.heap.size) := Nat.le_trans B3.out hg.size;clear bn hg;clear H3 R3 X3 B3;have HBd : Hid (∀ W, (Instr.build 62 ([(0, .int .i64 ((3 : Nat) : Int)), (8, .int .i64 (an : Int)), (1, .string NM)] : List (Nat × Value)).toArray).run Tryz.prog W = .ok (.agg (dcC ((3 : Nat) : Int) NM ⟨#[]⟩ ⟨#[]⟩ ⟨#[]⟩ ⟨#[]⟩ none 0 0 0 (an : Int))) W) := fun W => by kernel_rfl
       have HUd : Hid (xq7 Tryz.prog 62 (dcC ((3 : Nat) : Int) NM ⟨#[]⟩ ⟨#[]⟩ ⟨#[]⟩ ⟨#[]⟩ none 0 0 0 (an : Int)).size ∧ zDc.size = (dcC ((3 : Nat) : Int) NM ⟨#[]⟩ ⟨#[]⟩ ⟨#[]⟩ ⟨#[]⟩ none 0 0 0 (an : Int)).size ∧ ∀ v ∈ dcC ((3 : Nat) : Int) NM ⟨#[]⟩ ⟨#[]⟩ ⟨#[]⟩ ⟨#[]⟩ none 0 0 0 (an : Int), v.oneCell' = true) := ⟨xq3 _ _ _ _ _ _ _ _ _ _ _, rfl, by simp [Value.oneCell']⟩;go_wp2_with fail
       refine (yzi H4.out HNM.out.symm).mono ?_;rintro e w5 ⟨rfl, h2, hg⟩;have H5 := hid h2;have R5 := hid (gr_trans R4.out hg);have X5 := hid (X4.out.grown hg (fun e => hqr.out (by injection e)));have B5 : Hid (B ≤ w5.heap.size) := Nat.le_trans B4.out hg.size;clear h2 hg;clear H4 R4 X4 B4;have hd2 : yj2 en (xqq en i st) = ywb en i st := rfl;rw [hd2] at H5;clear hd2;have bn := xqc w5 (.cells (dcC ((3 : Nat) : Int) NM ⟨#[]⟩ ⟨#[]⟩ ⟨#[]⟩ ⟨#[]⟩ none 0 0 0 (an : Int)) 62);have hg := xjb bn (some q);have H6 := hid (H5.out.below bn);have hqd2 : Hid (q < w5.heap.size) := H5.out.lt;have hqd : Hid (q ≠ w5.heap.size) := by show _ ≠ _; have := H5.out.lt; omega
       have hrd : Hid (gr ≠ w5.heap.size) := by show _ ≠ _; have := X5.out.lt; omega
       have D6 := hid (xqd w5 62 (dcC ((3 : Nat) : Int) NM ⟨#[]⟩ ⟨#[]⟩ ⟨#[]⟩ ⟨#[]⟩ none 0 0 0 (an : Int)));have hwd : Hid (w.heap.size ≤ w5.heap.size) := R5.out.size;have R6 := hid (gr_trans R5.out hg);have X6 := hid (X5.out.below bn);have B6 : Hid (B ≤ (w5.alloc (.cells (dcC ((3 : Nat) : Int) NM ⟨#[]⟩ ⟨#[]⟩ ⟨#[]⟩ ⟨#[]⟩ none 0 0 0 (an : Int)) 62)).heap.size) := Nat.le_trans B5.out bn.size;clear bn hg H5 R5 X5 B5;go_wp2_with (first | (refine xqn (by rfl) _ _ (by rfl) _ (by rfl) _ (by assumption) ?_) | (refine xqg (by rfl) _ _ _ (by rfl) _ _ _ (by rfl) (by rfl) (by assumption) ?_; generalize w5.alloc (.cells (dcC ((3 : Nat) : Int) NM ⟨#[]⟩ ⟨#[]⟩ ⟨#[]⟩ ⟨#[]⟩ none 0 0 0 (an : Int)) 62) = w6 at *));obtain ⟨gd, hgd⟩ : ∃ g, g = w5.heap.size := ⟨_, rfl⟩;rw [← hgd] at hqd hqd2 hrd hwd D6 ⊢;clear hgd HBd HUd hfn;obtain ⟨OT, hOT⟩ : ∃ X, X = strOf (xqu en (ywb en i st)) := ⟨_, rfl⟩;have HOT := hid hOT;clear hOT;go_wp2_with fail
       refine (yzi H6.out HOT.out.symm).mono ?_;rintro e w7 ⟨rfl, h2, hg⟩;have H7 := hid h2;have R7 := hid (gr_trans R6.out hg);have X7 := hid (X6.out.grown hg (fun e => hqr.out (by injection e)));have B7 : Hid (B ≤ w7.heap.size) := Nat.le_trans B6.out hg.size;have D7 := hid (D6.out.grown hg (fun e => hqd.out (by injection e)));clear h2 hg;clear H6 R6 X6 B6 D6;have ck := D7.out.cell (k := 2) (v := .string ⟨#[]⟩) rfl;have fk := D7.out.free 2;have hg := xqs w7 gd 2 (.string OT);have hd3 : Hid (yj2 en (ywb en i st) = yj5 en i st) := by show _ = _; unfold yj5; rw [Hkk.out]; rfl
       have hod : Hid (strOf (xqy en i st) = OT) := by show _ = _; unfold xqy; rw [Hkk.out, if_pos rfl]; exact HOT.out.symm
       have H8 := hid (H7.out.setD D7.out hqd2.out 2 (.string OT));rw [hd3.out] at H8;have D8 : Hid (RowA (w7.setCell ⟨gd, 2, none⟩ (.string OT)) gd 62 (dcC ((3 : Nat) : Int) NM OT ⟨#[]⟩ ⟨#[]⟩ ⟨#[]⟩ none 0 0 0 (an : Int))) := D7.out.set 2 (.string OT);have R8 := hid (gr_new R7.out hwd.out 2 (.string OT));have X8 := hid (X7.out.grown hg (fun e => hrd.out (by injection e with e; exact e.symm)));have B8 : Hid (B ≤ (w7.setCell ⟨gd, 2, none⟩ (.string OT)).heap.size) := by show _ ≤ _; rw [World.size_setCell]; exact B7.out
       clear hg H7 D7 R7 X7 B7;go_wp2_with fail
       generalize w7.setCell ⟨gd, 2, none⟩ (.string OT) = w8 at *;clear ck fk;go_wp2_with fail
       refine (xvl H8.out 61 (by decide)).mono ?_;rintro e w9 ⟨rfl, h2, hg⟩;have H9 := hid h2;have R9 := hid (gr_trans R8.out hg);have X9 := hid (X8.out.grown hg (fun e => hqr.out (by injection e)));have B9 : Hid (B ≤ w9.heap.size) := Nat.le_trans B8.out hg.size;have D9 := hid (D8.out.grown hg (fun e => hqd.out (by injection e)));clear h2 hg;clear H8 R8 X8 B8 D8;have hd4 : xvi en [61] (yj5 en i st) = xqo en i st := rfl;rw [hd4] at H9;clear hd4;go_wp2_with fail
       refine (zqr H9.out B9.out hl.out HFu.out hqd2.out D9.out ⟨((3 : Nat) : Nat), xqu en (xqq en i st), xqy en i st, [], [], [], [], 0, (an : Int)⟩ ⟨rfl, rfl, rfl, rfl, rfl⟩).mono ?_;rintro e w10 ⟨rfl, A5, n5, c5, ts5, pl5, Bz, hD, hT, hts, h2, hBz, hgd⟩;have hrr := hgd.row X9.out (Ne.symm hqr.out) hrd.out;have H10 := hid h2;have D10 := hid hD;have R10 := hid (gd_gr R9.out hgd hwd.out);have X10 := hid hrr;have B10 := hid hBz;have T10 := hid hT;have Hts := hid hts;clear hD hT hts h2 hBz hgd hrr;clear H9 R9 X9 B9 D9;go_wp2_with fail
       refine (xvl H10.out 59 (by decide)).mono ?_;rintro e w11 ⟨rfl, h2, hg⟩;have H11 := hid h2;have R11 := hid (gr_trans R10.out hg);have X11 := hid (X10.out.grown hg (fun e => hqr.out (by injection e)));have B11 : Hid (Bz ≤ w11.heap.size) := Nat.le_trans B10.out hg.size;have D11 := hid (D10.out.grown hg (fun e => hqd.out (by injection e)));have T11 := hid (T10.out.over (RdW.size H10.out).choose_spec.choose_spec.choose_spec.choose_spec.choose_spec.choose_spec yju hg);clear h2 hg;clear H10 R10 X10 B10 D10 T10;have HI := hid D11.out.inV;have HM := hid (xq3 ((3 : Nat) : Int) NM OT (strOf (xqz L en K (3 : Nat) (xqo en i st) ⟨((3 : Nat) : Nat), xqu en (xqq en i st), xqy en i st, [], [], [], [], 0, (an : Int)⟩).nu) (strOf (xqz L en K (3 : Nat) (xqo en i st) ⟨((3 : Nat) : Nat), xqu en (xqq en i st), xqy en i st, [], [], [], [], 0, (an : Int)⟩).va) (strOf (xqz L en K (3 : Nat) (xqo en i st) ⟨((3 : Nat) : Nat), xqu en (xqq en i st), xqy en i st, [], [], [], [], 0, (an : Int)⟩).un) A5 n5 c5 pl5 (an : Int));have HU : Hid (xq7 Tryz.prog 62 (dcC ((3 : Nat) : Int) NM OT (strOf (xqz L en K (3 : Nat) (xqo en i st) ⟨((3 : Nat) : Nat), xqu en (xqq en i st), xqy en i st, [], [], [], [], 0, (an : Int)⟩).nu) (strOf (xqz L en K (3 : Nat) (xqo en i st) ⟨((3 : Nat) : Nat), xqu en (xqq en i st), xqy en i st, [], [], [], [], 0, (an : Int)⟩).va) (strOf (xqz L en K (3 : Nat) (xqo en i st) ⟨((3 : Nat) : Nat), xqu en (xqq en i st), xqy en i st, [], [], [], [], 0, (an : Int)⟩).un) A5 n5 c5 pl5 (an : Int)).size ∧ zDc.size = (dcC ((3 : Nat) : Int) NM OT (strOf (xqz L en K (3 : Nat) (xqo en i st) ⟨((3 : Nat) : Nat), xqu en (xqq en i st), xqy en i st, [], [], [], [], 0, (an : Int)⟩).nu) (strOf (xqz L en K (3 : Nat) (xqo en i st) ⟨((3 : Nat) : Nat), xqu en (xqq en i st), xqy en i st, [], [], [], [], 0, (an : Int)⟩).va) (strOf (xqz L en K (3 : Nat) (xqo en i st) ⟨((3 : Nat) : Nat), xqu en (xqq en i st), xqy en i st, [], [], [], [], 0, (an : Int)⟩).un) A5 n5 c5 pl5 (an : Int)).size ∧ ∀ v ∈ dcC ((3 : Nat) : Int) NM OT (strOf (xqz L en K (3 : Nat) (xqo en i st) ⟨((3 : Nat) : Nat), xqu en (xqq en i st), xqy en i st, [], [], [], [], 0, (an : Int)⟩).nu) (strOf (xqz L en K (3 : Nat) (xqo en i st) ⟨((3 : Nat) : Nat), xqu en (xqq en i st), xqy en i st, [], [], [], [], 0, (an : Int)⟩).va) (strOf (xqz L en K (3 : Nat) (xqo en i st) ⟨((3 : Nat) : Nat), xqu en (xqq en i st), xqy en i st, [], [], [], [], 0, (an : Int)⟩).un) A5 n5 c5 pl5 (an : Int), v.oneCell' = true) := ⟨xq3 _ _ _ _ _ _ _ _ _ _ _, rfl, by simp [Value.oneCell']⟩
       have HRf := hid (RowA.fill X11.out (V' := dcC ((3 : Nat) : Int) NM OT (strOf (xqz L en K (3 : Nat) (xqo en i st) ⟨((3 : Nat) : Nat), xqu en (xqq en i st), xqy en i st, [], [], [], [], 0, (an : Int)⟩).nu) (strOf (xqz L en K (3 : Nat) (xqo en i st) ⟨((3 : Nat) : Nat), xqu en (xqq en i st), xqy en i st, [], [], [], [], 0, (an : Int)⟩).va) (strOf (xqz L en K (3 : Nat) (xqo en i st) ⟨((3 : Nat) : Nat), xqu en (xqq en i st), xqy en i st, [], [], [], [], 0, (an : Int)⟩).un) A5 n5 c5 pl5 (an : Int)));have hgr2 := ywo w11 gr (dcC ((3 : Nat) : Int) NM OT (strOf (xqz L en K (3 : Nat) (xqo en i st) ⟨((3 : Nat) : Nat), xqu en (xqq en i st), xqy en i st, [], [], [], [], 0, (an : Int)⟩).nu) (strOf (xqz L en K (3 : Nat) (xqo en i st) ⟨((3 : Nat) : Nat), xqu en (xqq en i st), xqy en i st, [], [], [], [], 0, (an : Int)⟩).va) (strOf (xqz L en K (3 : Nat) (xqo en i st) ⟨((3 : Nat) : Nat), xqu en (xqq en i st), xqy en i st, [], [], [], [], 0, (an : Int)⟩).un) A5 n5 c5 pl5 (an : Int));have HF := hid (H11.out.oth X11.out (by decide) (by decide) hqr2.out hgr2);have HT := hid (T11.out.over X11.out (by decide) hgr2);have HR := hid (yqu R11.out (Nat.le_of_eq Hgr.out.symm) (dcC ((3 : Nat) : Int) NM OT (strOf (xqz L en K (3 : Nat) (xqo en i st) ⟨((3 : Nat) : Nat), xqu en (xqq en i st), xqy en i st, [], [], [], [], 0, (an : Int)⟩).nu) (strOf (xqz L en K (3 : Nat) (xqo en i st) ⟨((3 : Nat) : Nat), xqu en (xqq en i st), xqy en i st, [], [], [], [], 0, (an : Int)⟩).va) (strOf (xqz L en K (3 : Nat) (xqo en i st) ⟨((3 : Nat) : Nat), xqu en (xqq en i st), xqy en i st, [], [], [], [], 0, (an : Int)⟩).un) A5 n5 c5 pl5 (an : Int)))
       have HB : Hid (Bz ≤ (w11.setRow gr (dcC ((3 : Nat) : Int) NM OT (strOf (xqz L en K (3 : Nat) (xqo en i st) ⟨((3 : Nat) : Nat), xqu en (xqq en i st), xqy en i st, [], [], [], [], 0, (an : Int)⟩).nu) (strOf (xqz L en K (3 : Nat) (xqo en i st) ⟨((3 : Nat) : Nat), xqu en (xqq en i st), xqy en i st, [], [], [], [], 0, (an : Int)⟩).va) (strOf (xqz L en K (3 : Nat) (xqo en i st) ⟨((3 : Nat) : Nat), xqu en (xqq en i st), xqy en i st, [], [], [], [], 0, (an : Int)⟩).un) A5 n5 c5 pl5 (an : Int))).heap.size) := by show _ ≤ _; rw [setRow_size]; exact B11.out
       clear hgr2;go_wp2_with (first | (refine xqf (by rfl) _ _ (by rfl) _ _ (by rfl) _ (by assumption) (by assumption) ?_) | (refine xqi (by rfl) _ _ _ (by rfl) _ (by rfl) _ (by rfl) _ _ (by assumption) (by assumption) ?_));refine bodyPost_ret (results_cell_row rfl _ _ _ 62 (dcC ((3 : Nat) : Int) NM OT (strOf (xqz L en K (3 : Nat) (xqo en i st) ⟨((3 : Nat) : Nat), xqu en (xqq en i st), xqy en i st, [], [], [], [], 0, (an : Int)⟩).nu) (strOf (xqz L en K (3 : Nat) (xqo en i st) ⟨((3 : Nat) : Nat), xqu en (xqq en i st), xqy en i st, [], [], [], [], 0, (an : Int)⟩).va) (strOf (xqz L en K (3 : Nat) (xqo en i st) ⟨((3 : Nat) : Nat), xqu en (xqq en i st), xqy en i st, [], [], [], [], 0, (an : Int)⟩).un) A5 n5 c5 pl5 (an : Int)) (0, 0) _ rfl HRf.out Tryz.underlying62 rfl yq7) rfl ?_;have hk0 : xve (pkS st) = (3 : Nat) := Hkk.out;have hdec : zjg L en K i st = xqz L en K (3 : Nat) (xqo en i st) ⟨((3 : Nat) : Nat), xqu en (xqq en i st), xqy en i st, [], [], [], [], 0, (an : Int)⟩ := by
        unfold zjg dec0;rw [hk0, hpn.out]
       have hsS : yqj L en K i st = xvi en [59] (bodS L en K (3 : Nat) (xqo en i st)) := by unfold yqj dec5; rw [hk0]
       refine ⟨A5, n5, c5, ts5, pl5, Bz, ?_, HT.out, ?_, ?_, HB.out, HR.out⟩
       · rw [hdec];show _ = Ending.returned (.agg (dcC (xqz L en K (3 : Nat) (xqo en i st) ⟨((3 : Nat) : Nat), xqu en (xqq en i st), xqy en i st, [], [], [], [], 0, (an : Int)⟩).k (strOf (xqz L en K (3 : Nat) (xqo en i st) ⟨((3 : Nat) : Nat), xqu en (xqq en i st), xqy en i st, [], [], [], [], 0, (an : Int)⟩).nm) (strOf (xqz L en K (3 : Nat) (xqo en i st) ⟨((3 : Nat) : Nat), xqu en (xqq en i st), xqy en i st, [], [], [], [], 0, (an : Int)⟩).ot) (strOf (xqz L en K (3 : Nat) (xqo en i st) ⟨((3 : Nat) : Nat), xqu en (xqq en i st), xqy en i st, [], [], [], [], 0, (an : Int)⟩).nu) (strOf (xqz L en K (3 : Nat) (xqo en i st) ⟨((3 : Nat) : Nat), xqu en (xqq en i st), xqy en i st, [], [], [], [], 0, (an : Int)⟩).va) (strOf (xqz L en K (3 : Nat) (xqo en i st) ⟨((3 : Nat) : Nat), xqu en (xqq en i st), xqy en i st, [], [], [], [], 0, (an : Int)⟩).un) A5 n5 c5 pl5 (xqz L en K (3 : Nat) (xqo en i st) ⟨((3 : Nat) : Nat), xqu en (xqq en i st), xqy en i st, [], [], [], [], 0, (an : Int)⟩).at'));rw [(xq9 L en K (3 : Nat) (xqo en i st) _).1, (xq9 L en K (3 : Nat) (xqo en i st) _).2.1, (xq9 L en K (3 : Nat) (xqo en i st) _).2.2.1, (xq9 L en K (3 : Nat) (xqo en i st) _).2.2.2];dsimp only;rw [hod.out, ← HNM.out]
       · intro e;rw [hsS] at e;rw [hdec];exact Hts.out (E_sgn e)
       · rw [hsS]; exact HF.out
     · have e3 : ((kk : Int) == 3) = false := by rw [beq_eq_false_iff_ne]; omega
       have ei : ¬ (60 : Int) ≤ (i : Int) := by omega
       have hdP : yzw en i st = st := by unfold yzw; rw [Hkk.out, if_neg k0, if_neg hi]
       clear hi;rw [← hdP] at H2;have HdP := hid hdP;clear hdP;go_wp2_with fail
       refine (xwa H2.out).mono ?_;rintro e w3 ⟨rfl, h2, hg⟩;have H3 := hid h2;have R3 := hid (gr_trans R2.out hg);have X3 := hid (X2.out.grown hg (fun e => hqr.out (by injection e)));have B3 : Hid (B ≤ w3.heap.size) := Nat.le_trans B2.out hg.size;clear h2 hg;clear H2 R2 X2 B2
       skip
       obtain ⟨⟨kn, tn, an⟩, hpn⟩ : ∃ t, t = pkS (xqq en i st) := ⟨_, rfl⟩;replace hpn := hid hpn.symm;have hfn := fun W => (xwt (kn : Int) (strOf tn) (an : Int) W).2.2
       have hd1 : rdS (yzw en i st) = xqq en i st := rfl;rw [hd1] at H3;clear hd1;obtain ⟨NM, hNM⟩ : ∃ X, X = strOf (xqu en (xqq en i st)) := ⟨_, rfl⟩;have HNM := hid hNM;clear hNM;go_wp2_with fail
       refine (xjy H3.out hpn.out).mono ?_;rintro e w4 ⟨rfl, bn⟩;have hg := xjb bn (some q);have H4 := hid (H3.out.below bn);have R4 := hid (gr_trans R3.out hg);have X4 := hid (X3.out.grown hg (fun e => hqr.out (by injection e)));have B4 : Hid (B ≤ w4.heap.size) := Nat.le_trans B3.out hg.size;clear bn hg;clear H3 R3 X3 B3;have HBd : Hid (∀ W, (Instr.build 62 ([(0, .int .i64 (kk : Int)), (8, .int .i64 (an : Int)), (1, .string NM)] : List (Nat × Value)).toArray).run Tryz.prog W = .ok (.agg (dcC (kk : Int) NM ⟨#[]⟩ ⟨#[]⟩ ⟨#[]⟩ ⟨#[]⟩ none 0 0 0 (an : Int))) W) := fun W => by kernel_rfl
       have HUd : Hid (xq7 Tryz.prog 62 (dcC (kk : Int) NM ⟨#[]⟩ ⟨#[]⟩ ⟨#[]⟩ ⟨#[]⟩ none 0 0 0 (an : Int)).size ∧ zDc.size = (dcC (kk : Int) NM ⟨#[]⟩ ⟨#[]⟩ ⟨#[]⟩ ⟨#[]⟩ none 0 0 0 (an : Int)).size ∧ ∀ v ∈ dcC (kk : Int) NM ⟨#[]⟩ ⟨#[]⟩ ⟨#[]⟩ ⟨#[]⟩ none 0 0 0 (an : Int), v.oneCell' = true) := ⟨xq3 _ _ _ _ _ _ _ _ _ _ _, rfl, by simp [Value.oneCell']⟩;go_wp2_with fail
       refine (yzi H4.out HNM.out.symm).mono ?_;rintro e w5 ⟨rfl, h2, hg⟩;have H5 := hid h2;have R5 := hid (gr_trans R4.out hg);have X5 := hid (X4.out.grown hg (fun e => hqr.out (by injection e)));have B5 : Hid (B ≤ w5.heap.size) := Nat.le_trans B4.out hg.size;clear h2 hg;clear H4 R4 X4 B4;have hd2 : yj2 en (xqq en i st) = ywb en i st := rfl;rw [hd2] at H5;clear hd2;have bn := xqc w5 (.cells (dcC (kk : Int) NM ⟨#[]⟩ ⟨#[]⟩ ⟨#[]⟩ ⟨#[]⟩ none 0 0 0 (an : Int)) 62);have hg := xjb bn (some q);have H6 := hid (H5.out.below bn);have hqd2 : Hid (q < w5.heap.size) := H5.out.lt;have hqd : Hid (q ≠ w5.heap.size) := by show _ ≠ _; have := H5.out.lt; omega
       have hrd : Hid (gr ≠ w5.heap.size) := by show _ ≠ _; have := X5.out.lt; omega
       have D6 := hid (xqd w5 62 (dcC (kk : Int) NM ⟨#[]⟩ ⟨#[]⟩ ⟨#[]⟩ ⟨#[]⟩ none 0 0 0 (an : Int)));have hwd : Hid (w.heap.size ≤ w5.heap.size) := R5.out.size;have R6 := hid (gr_trans R5.out hg);have X6 := hid (X5.out.below bn);have B6 : Hid (B ≤ (w5.alloc (.cells (dcC (kk : Int) NM ⟨#[]⟩ ⟨#[]⟩ ⟨#[]⟩ ⟨#[]⟩ none 0 0 0 (an : Int)) 62)).heap.size) := Nat.le_trans B5.out bn.size;clear bn hg H5 R5 X5 B5;go_wp2_with (first | (refine xqn (by rfl) _ _ (by rfl) _ (by rfl) _ (by assumption) ?_) | (refine xqg (by rfl) _ _ _ (by rfl) _ _ _ (by rfl) (by rfl) (by assumption) ?_; generalize w5.alloc (.cells (dcC (kk : Int) NM ⟨#[]⟩ ⟨#[]⟩ ⟨#[]⟩ ⟨#[]⟩ none 0 0 0 (an : Int)) 62) = w6 at *));obtain ⟨gd, hgd⟩ : ∃ g, g = w5.heap.size := ⟨_, rfl⟩;rw [← hgd] at hqd hqd2 hrd hwd D6 ⊢;clear hgd HBd HUd hfn;have hd3 : Hid (ywb en i st = yj5 en i st) := by show _ = _; unfold yj5; rw [Hkk.out, if_neg (by omega)]
       have hod : Hid (strOf (xqy en i st) = ⟨#[]⟩) := by show _ = _; unfold xqy; rw [Hkk.out, if_neg (by omega)]; rfl
       rw [hd3.out] at H6;go_wp2_with fail
       refine (xvl H6.out 61 (by decide)).mono ?_;rintro e w7 ⟨rfl, h2, hg⟩;have H7 := hid h2;have R7 := hid (gr_trans R6.out hg);have X7 := hid (X6.out.grown hg (fun e => hqr.out (by injection e)));have B7 : Hid (B ≤ w7.heap.size) := Nat.le_trans B6.out hg.size;have D7 := hid (D6.out.grown hg (fun e => hqd.out (by injection e)));clear h2 hg;clear H6 R6 X6 B6 D6;have hd4 : xvi en [61] (yj5 en i st) = xqo en i st := rfl;rw [hd4] at H7;clear hd4;go_wp2_with fail
       refine (zqr H7.out B7.out hl.out HFu.out hqd2.out D7.out ⟨(kk : Nat), xqu en (xqq en i st), xqy en i st, [], [], [], [], 0, (an : Int)⟩ ⟨rfl, rfl, rfl, rfl, rfl⟩).mono ?_;rintro e w8 ⟨rfl, A5, n5, c5, ts5, pl5, Bz, hD, hT, hts, h2, hBz, hgd⟩;have hrr := hgd.row X7.out (Ne.symm hqr.out) hrd.out;have H8 := hid h2;have D8 := hid hD;have R8 := hid (gd_gr R7.out hgd hwd.out);have X8 := hid hrr;have B8 := hid hBz;have T8 := hid hT;have Hts := hid hts;clear hD hT hts h2 hBz hgd hrr;clear H7 R7 X7 B7 D7;go_wp2_with fail
       refine (xvl H8.out 59 (by decide)).mono ?_;rintro e w9 ⟨rfl, h2, hg⟩;have H9 := hid h2;have R9 := hid (gr_trans R8.out hg);have X9 := hid (X8.out.grown hg (fun e => hqr.out (by injection e)));have B9 : Hid (Bz ≤ w9.heap.size) := Nat.le_trans B8.out hg.size;have D9 := hid (D8.out.grown hg (fun e => hqd.out (by injection e)));have T9 := hid (T8.out.over (RdW.size H8.out).choose_spec.choose_spec.choose_spec.choose_spec.choose_spec.choose_spec yju hg);clear h2 hg;clear H8 R8 X8 B8 D8 T8;have HI := hid D9.out.inV;have HM := hid (xq3 (kk : Int) NM ⟨#[]⟩ (strOf (xqz L en K kk (xqo en i st) ⟨(kk : Nat), xqu en (xqq en i st), xqy en i st, [], [], [], [], 0, (an : Int)⟩).nu) (strOf (xqz L en K kk (xqo en i st) ⟨(kk : Nat), xqu en (xqq en i st), xqy en i st, [], [], [], [], 0, (an : Int)⟩).va) (strOf (xqz L en K kk (xqo en i st) ⟨(kk : Nat), xqu en (xqq en i st), xqy en i st, [], [], [], [], 0, (an : Int)⟩).un) A5 n5 c5 pl5 (an : Int));have HU : Hid (xq7 Tryz.prog 62 (dcC (kk : Int) NM ⟨#[]⟩ (strOf (xqz L en K kk (xqo en i st) ⟨(kk : Nat), xqu en (xqq en i st), xqy en i st, [], [], [], [], 0, (an : Int)⟩).nu) (strOf (xqz L en K kk (xqo en i st) ⟨(kk : Nat), xqu en (xqq en i st), xqy en i st, [], [], [], [], 0, (an : Int)⟩).va) (strOf (xqz L en K kk (xqo en i st) ⟨(kk : Nat), xqu en (xqq en i st), xqy en i st, [], [], [], [], 0, (an : Int)⟩).un) A5 n5 c5 pl5 (an : Int)).size ∧ zDc.size = (dcC (kk : Int) NM ⟨#[]⟩ (strOf (xqz L en K kk (xqo en i st) ⟨(kk : Nat), xqu en (xqq en i st), xqy en i st, [], [], [], [], 0, (an : Int)⟩).nu) (strOf (xqz L en K kk (xqo en i st) ⟨(kk : Nat), xqu en (xqq en i st), xqy en i st, [], [], [], [], 0, (an : Int)⟩).va) (strOf (xqz L en K kk (xqo en i st) ⟨(kk : Nat), xqu en (xqq en i st), xqy en i st, [], [], [], [], 0, (an : Int)⟩).un) A5 n5 c5 pl5 (an : Int)).size ∧ ∀ v ∈ dcC (kk : Int) NM ⟨#[]⟩ (strOf (xqz L en K kk (xqo en i st) ⟨(kk : Nat), xqu en (xqq en i st), xqy en i st, [], [], [], [], 0, (an : Int)⟩).nu) (strOf (xqz L en K kk (xqo en i st) ⟨(kk : Nat), xqu en (xqq en i st), xqy en i st, [], [], [], [], 0, (an : Int)⟩).va) (strOf (xqz L en K kk (xqo en i st) ⟨(kk : Nat), xqu en (xqq en i st), xqy en i st, [], [], [], [], 0, (an : Int)⟩).un) A5 n5 c5 pl5 (an : Int), v.oneCell' = true) := ⟨xq3 _ _ _ _ _ _ _ _ _ _ _, rfl, by simp [Value.oneCell']⟩
       have HRf := hid (RowA.fill X9.out (V' := dcC (kk : Int) NM ⟨#[]⟩ (strOf (xqz L en K kk (xqo en i st) ⟨(kk : Nat), xqu en (xqq en i st), xqy en i st, [], [], [], [], 0, (an : Int)⟩).nu) (strOf (xqz L en K kk (xqo en i st) ⟨(kk : Nat), xqu en (xqq en i st), xqy en i st, [], [], [], [], 0, (an : Int)⟩).va) (strOf (xqz L en K kk (xqo en i st) ⟨(kk : Nat), xqu en (xqq en i st), xqy en i st, [], [], [], [], 0, (an : Int)⟩).un) A5 n5 c5 pl5 (an : Int)));have hgr2 := ywo w9 gr (dcC (kk : Int) NM ⟨#[]⟩ (strOf (xqz L en K kk (xqo en i st) ⟨(kk : Nat), xqu en (xqq en i st), xqy en i st, [], [], [], [], 0, (an : Int)⟩).nu) (strOf (xqz L en K kk (xqo en i st) ⟨(kk : Nat), xqu en (xqq en i st), xqy en i st, [], [], [], [], 0, (an : Int)⟩).va) (strOf (xqz L en K kk (xqo en i st) ⟨(kk : Nat), xqu en (xqq en i st), xqy en i st, [], [], [], [], 0, (an : Int)⟩).un) A5 n5 c5 pl5 (an : Int));have HF := hid (H9.out.oth X9.out (by decide) (by decide) hqr2.out hgr2);have HT := hid (T9.out.over X9.out (by decide) hgr2);have HR := hid (yqu R9.out (Nat.le_of_eq Hgr.out.symm) (dcC (kk : Int) NM ⟨#[]⟩ (strOf (xqz L en K kk (xqo en i st) ⟨(kk : Nat), xqu en (xqq en i st), xqy en i st, [], [], [], [], 0, (an : Int)⟩).nu) (strOf (xqz L en K kk (xqo en i st) ⟨(kk : Nat), xqu en (xqq en i st), xqy en i st, [], [], [], [], 0, (an : Int)⟩).va) (strOf (xqz L en K kk (xqo en i st) ⟨(kk : Nat), xqu en (xqq en i st), xqy en i st, [], [], [], [], 0, (an : Int)⟩).un) A5 n5 c5 pl5 (an : Int)))
       have HB : Hid (Bz ≤ (w9.setRow gr (dcC (kk : Int) NM ⟨#[]⟩ (strOf (xqz L en K kk (xqo en i st) ⟨(kk : Nat), xqu en (xqq en i st), xqy en i st, [], [], [], [], 0, (an : Int)⟩).nu) (strOf (xqz L en K kk (xqo en i st) ⟨(kk : Nat), xqu en (xqq en i st), xqy en i st, [], [], [], [], 0, (an : Int)⟩).va) (strOf (xqz L en K kk (xqo en i st) ⟨(kk : Nat), xqu en (xqq en i st), xqy en i st, [], [], [], [], 0, (an : Int)⟩).un) A5 n5 c5 pl5 (an : Int))).heap.size) := by show _ ≤ _; rw [setRow_size]; exact B9.out
       clear hgr2;go_wp2_with (first | (refine xqf (by rfl) _ _ (by rfl) _ _ (by rfl) _ (by assumption) (by assumption) ?_) | (refine xqi (by rfl) _ _ _ (by rfl) _ (by rfl) _ (by rfl) _ _ (by assumption) (by assumption) ?_));refine bodyPost_ret (results_cell_row rfl _ _ _ 62 (dcC (kk : Int) NM ⟨#[]⟩ (strOf (xqz L en K kk (xqo en i st) ⟨(kk : Nat), xqu en (xqq en i st), xqy en i st, [], [], [], [], 0, (an : Int)⟩).nu) (strOf (xqz L en K kk (xqo en i st) ⟨(kk : Nat), xqu en (xqq en i st), xqy en i st, [], [], [], [], 0, (an : Int)⟩).va) (strOf (xqz L en K kk (xqo en i st) ⟨(kk : Nat), xqu en (xqq en i st), xqy en i st, [], [], [], [], 0, (an : Int)⟩).un) A5 n5 c5 pl5 (an : Int)) (0, 0) _ rfl HRf.out Tryz.underlying62 rfl yq7) rfl ?_;have hk0 : xve (pkS st) = kk := Hkk.out;have hdec : zjg L en K i st = xqz L en K kk (xqo en i st) ⟨(kk : Nat), xqu en (xqq en i st), xqy en i st, [], [], [], [], 0, (an : Int)⟩ := by
        unfold zjg dec0;rw [hk0, hpn.out]
       have hsS : yqj L en K i st = xvi en [59] (bodS L en K kk (xqo en i st)) := by unfold yqj dec5; rw [hk0]
       refine ⟨A5, n5, c5, ts5, pl5, Bz, ?_, HT.out, ?_, ?_, HB.out, HR.out⟩
       · rw [hdec];show _ = Ending.returned (.agg (dcC (xqz L en K kk (xqo en i st) ⟨(kk : Nat), xqu en (xqq en i st), xqy en i st, [], [], [], [], 0, (an : Int)⟩).k (strOf (xqz L en K kk (xqo en i st) ⟨(kk : Nat), xqu en (xqq en i st), xqy en i st, [], [], [], [], 0, (an : Int)⟩).nm) (strOf (xqz L en K kk (xqo en i st) ⟨(kk : Nat), xqu en (xqq en i st), xqy en i st, [], [], [], [], 0, (an : Int)⟩).ot) (strOf (xqz L en K kk (xqo en i st) ⟨(kk : Nat), xqu en (xqq en i st), xqy en i st, [], [], [], [], 0, (an : Int)⟩).nu) (strOf (xqz L en K kk (xqo en i st) ⟨(kk : Nat), xqu en (xqq en i st), xqy en i st, [], [], [], [], 0, (an : Int)⟩).va) (strOf (xqz L en K kk (xqo en i st) ⟨(kk : Nat), xqu en (xqq en i st), xqy en i st, [], [], [], [], 0, (an : Int)⟩).un) A5 n5 c5 pl5 (xqz L en K kk (xqo en i st) ⟨(kk : Nat), xqu en (xqq en i st), xqy en i st, [], [], [], [], 0, (an : Int)⟩).at'));rw [(xq9 L en K kk (xqo en i st) _).1, (xq9 L en K kk (xqo en i st) _).2.1, (xq9 L en K kk (xqo en i st) _).2.2.1, (xq9 L en K kk (xqo en i st) _).2.2.2];dsimp only;rw [hod.out, ← HNM.out]
       · intro e;rw [hsS] at e;rw [hdec];exact Hts.out (E_sgn e)
       · rw [hsS]; exact HF.out
end
theorem tokF {t : Tk} (h : TokK t) : TkF t := by
 obtain ⟨h1, h2, _⟩ := h;unfold okTk at h1;refine ⟨h2, ?_, fun e => ?_⟩
 · split at h1
   · cases hl : t.2.1 with
     | nil => decide
     | cons c r =>
      rw [hl] at h1;simp only [yqx, Bool.and_eq_true, decide_eq_true_eq] at h1;rw [List.length_cons]; omega
   · split at h1
     · unfold xq0 at h1;simp only [Bool.and_eq_true, decide_eq_true_eq] at h1;omega
     · split at h1
       · have := of_decide_eq_true h1; omega
       · split at h1
         · simp only [Bool.and_eq_true, decide_eq_true_eq] at h1; omega
         · cases h1
 · rw [if_neg (by omega), if_pos e] at h1;unfold xq0 at h1;simp only [Bool.and_eq_true, decide_eq_true_eq] at h1;obtain ⟨⟨a1, a2⟩, a3⟩ := h1;cases hl : t.2.1 with
   | nil => rw [hl] at a1; simp at a1
   | cons c r =>
    refine ⟨c, r, rfl, ?_⟩;rw [hl] at a3;cases hc : xq2 c with
    | true => rfl
    | false =>
     have h0 : xqw (c :: r) = 0 := by unfold xqw; rw [List.takeWhile_cons_of_neg (by rw [hc]; decide)]; rfl
     unfold xjv at a3;rw [if_pos h0] at a3;simp at a3
theorem toksF {bs : List Nat} {ts : List Tk} (hb : Bytes bs) (h : lexT bs = .ok ts) : ∀ t ∈ ts, TkF t := fun t ht => tokF ((lexT_tok hb h).1 t ht)
def yqn (L : Lim) (bs : List Nat) : St := if L.text < bs.length then ⟨[], 2, 0, [], 0, 0⟩ else match lexT bs with
 | .ok ts => ⟨ts, 0, 0, [], 0, 0⟩
 | .bad p => ⟨[], 11, p, [], 0, 0⟩
theorem iniS_op (L : Lim) (bs : List Nat) : (yqn L bs).op = 0 ∧ (yqn L bs).mad = 0 ∧ (yqn L bs).ts = [] := by
 unfold yqn
 split
 · exact ⟨rfl, rfl, rfl⟩
 · split <;> exact ⟨rfl, rfl, rfl⟩
/-! ### how many tokens are left -/
theorem numb_len (en : Nat) (st : St) : (yv2 en st).l.length ≤ st.l.length := by
 have h1 := (tak_cn en 2 st).len;unfold yv2
 split
 · exact Nat.le_trans (tak_cn en 2 (rdS (xwp en 2 st))).len (Nat.le_trans (rd_cn _).len h1)
 · exact h1
theorem num_len (en : Nat) (st : St) : (yz8 en st).l.length ≤ st.l.length := by
 unfold yz8
 split
 · exact Nat.le_trans (numb_len en (rdS st)) (rd_cn _).len
 · exact numb_len en st
theorem tre_len (L : Lim) (en K : Nat) (st : St) : (xwu L en K st).l.length ≤ st.l.length := (zqb (xw1 L en K) L (nilS st)).len
theorem bod_len (L : Lim) (en K k : Nat) (s : St) : (bodS L en K k s).l.length ≤ s.l.length := by
 unfold bodS;have hn := num_len en s;have ht := tre_len L en K s
 split
 · exact Nat.le_trans (tak_cn _ _ _).len hn
 · split
   · exact Nat.le_trans (num_len _ _) (Nat.le_trans (sgn_cn _ _ _).len (Nat.le_trans (unt_cn _ _).len hn))
   · split
     · exact hn
     · split
       · exact ht
       · split
         · refine Nat.le_trans (sml_cn _ _ _ _).len (Nat.le_trans (sgn_cn _ _ _).len (Nat.le_trans ?_ ht));unfold out1
           split
           · exact Nat.le_trans (tak_cn _ _ _).len (rd_cn _).len
           · exact Nat.le_refl _
         · exact Nat.le_refl _
theorem decP_cn (en i : Nat) (st : St) : Cn 0 st (yzw en i st) := by
 unfold yzw
 split
 · exact ywa _ _ _
 · split
   · exact ywa _ _ _
   · exact Cn.refl _
theorem dec1_len (en i : Nat) {st : St} (h : st.l ≠ []) : (xqq en i st).l.length + 1 ≤ st.l.length := by
 have h1 := (decP_cn en i st).len;have h2 := List.length_pos_iff.2 h;show (yzw en i st).l.tail.length + 1 ≤ _;rw [List.length_tail]; omega
theorem dec4_cn (en i : Nat) (st : St) : Cn 0 st (xqo en i st) := by
 have h1 : Cn 0 st (xqq en i st) := (decP_cn en i st).trans (rd_cn _);have h2 : Cn 0 st (ywb en i st) := h1.trans (nam_cn _ _);have h3 : Cn 0 st (yj5 en i st) := by
  unfold yj5
  split
  · exact h2.trans (nam_cn _ _)
  · exact h2
 exact h3.trans (sgn_cn _ _ _)
theorem dec4_len (en i : Nat) {st : St} (h : st.l ≠ []) : (xqo en i st).l.length + 1 ≤ st.l.length := by
 have h1 := dec1_len en i h;have h2 : (ywb en i st).l.length ≤ (xqq en i st).l.length := (nam_cn _ _).len;have h3 : (yj5 en i st).l.length ≤ (ywb en i st).l.length := by
  unfold yj5
  split
  · exact (nam_cn _ _).len
  · exact Nat.le_refl _
 have h4 : (xqo en i st).l.length ≤ (yj5 en i st).l.length := (sgn_cn _ _ _).len;omega
theorem dec_len (L : Lim) (en K i : Nat) {st : St} (h : st.l ≠ []) : (yqj L en K i st).l.length < st.l.length := by
 have h1 := dec4_len en i h;have h2 := bod_len L en K (xve (pkS st)) (xqo en i st);have h3 : (yqj L en K i st).l.length ≤ (dec5 L en K i st).l.length := (sgn_cn _ _ _).len;have h4 : (dec5 L en K i st).l.length ≤ (xqo en i st).l.length := h2;omega
theorem dec4_fu {L : Lim} {K en i : Nat} {st : St} (hL : L.Fit) (hK : L.deep + 2 ≤ K) (ho : st.op = 0) (hm : st.mad ≤ 2000) (hl : st.l.length ≤ 10000) : Fu L K (nilS (xqo en i st)) := by
 have hc := dec4_cn en i st;have h1 := hc.len;have h2 := hc.op;have hmu : mu (xqo en i st).l ≤ 10001 := by
  unfold mu
  split <;> omega
 have hts : (xqo en i st).ts = st.ts ∧ (xqo en i st).mad = st.mad := by
  have p : ∀ s : St, (yzw en i s).ts = s.ts ∧ (yzw en i s).mad = s.mad := fun s => by
   unfold yzw
   split
   · exact ⟨(yzq _ _ _).1, (yzq _ _ _).2.1⟩
   · split
     · exact ⟨(yzq _ _ _).1, (yzq _ _ _).2.1⟩
     · exact ⟨rfl, rfl⟩
  have d2 : (ywb en i st).ts = st.ts ∧ (ywb en i st).mad = st.mad := ⟨(nam_tm en (xqq en i st)).1.trans (p st).1, (nam_tm en (xqq en i st)).2.1.trans (p st).2⟩;have d3 : (yj5 en i st).ts = st.ts ∧ (yj5 en i st).mad = st.mad := by
   unfold yj5
   split
   · exact ⟨(nam_tm _ _).1.trans d2.1, (nam_tm _ _).2.1.trans d2.2⟩
   · exact d2
  exact ⟨(sgn_tm _ _ _).1.trans d3.1, (sgn_tm _ _ _).2.1.trans d3.2⟩
 refine ⟨by omega, fun _ => ⟨?_, ?_⟩, ?_, ?_, ?_⟩
 · show (xqo en i st).op ≤ _; rw [h2, ho]; exact Nat.zero_le _
 · show _ ≤ K + (xqo en i st).op; omega
 · show (xqo en i st).op ≤ _; rw [h2, ho]; exact Nat.zero_le _
 · show 0 + mu (xqo en i st).l ≤ _; omega
 · show (xqo en i st).mad + mu (xqo en i st).l ≤ _; rw [hts.2]; omega
/-! ### scripts -/
def scrS (L : Lim) (en K : Nat) : Nat → Nat → St → List Dc × St
 | 0, _, st => ([], st)
 | g + 1, i, st => if st.l = [] then ([], st) else (zjg L en K i st :: (scrS L en K g (i + 1) (yqj L en K i st)).1, (scrS L en K g (i + 1) (yqj L en K i st)).2)
theorem yjm (L : Lim) (en K g i : Nat) {st : St} (h : st.l = []) : scrS L en K g i st = ([], st) := by
 cases g with
 | zero => rfl
 | succ g => unfold scrS; rw [if_pos h]
def ScrOk (r : PaR (List Dc)) (x : List Dc × St) : Prop := match r with
 | .ok ds _ _ => x.1 = ds ∧ x.2.E = 0
 | .bad e p => Dead e p 0 x.2
theorem scr_is {L : Lim} {en K : Nat} (hK : L.deep + 2 ≤ K) : ∀ (g i : Nat) (st : St), st.E = 0 → st.mad ≤ L.nodes → st.op = 0 → st.l.length ≤ g → ScrOk (ywh L en g i st.l st.mad) (scrS L en K g i st)
 | 0, i, st, hE, hn, ho, hl => by
  have h0 : st.l = [] := List.length_eq_zero_iff.1 (Nat.le_zero.1 hl);rw [h0];exact ⟨rfl, hE⟩
 | g + 1, i, st, hE, hn, ho, hl => by
  cases e : st.l with
  | nil => exact ⟨by rw [yjm L en K _ i e], by rw [yjm L en K _ i e]; exact hE⟩
  | cons x r =>
   have hne : st.l ≠ [] := by rw [e]; simp
   have hd := dec_ki (L := L) (en := en) (K := K) (i := i) hE hn ho hne hK;have hs : scrS L en K (g + 1) i st = (zjg L en K i st :: (scrS L en K g (i + 1) (yqj L en K i st)).1, (scrS L en K g (i + 1) (yqj L en K i st)).2) := by
    show (if st.l = [] then _ else _) = _;rw [if_neg hne]
   rw [hs];have hlen := dec_len L en K i hne;show ScrOk ((xw8 L en i (x :: r) st.mad).next fun d r n => (ywh L en g (i + 1) r n).next fun ds r n => .ok (d :: ds) r n) _;rw [← e];cases e2 : xw8 L en i st.l st.mad with
   | bad a b =>
    rw [e2] at hd;have hdd : Dead a b 0 (yqj L en K i st) := hd;show Dead _ _ _ _;rw [yjm L en K g (i + 1) hdd.l];exact hdd
   | ok d l n =>
    rw [e2] at hd;obtain ⟨d1, rfl, rfl, d4, d5, d6⟩ := hd;have ih := scr_is (en := en) hK g (i + 1) (yqj L en K i st) d1 d5 d4 (by omega);rw [PaR.next_ok];cases e3 : ywh L en g (i + 1) (yqj L en K i st).l (yqj L en K i st).mad with
    | bad a b =>
     rw [e3] at ih;exact ih
    | ok ds q m =>
     rw [e3] at ih;exact ⟨by rw [ih.1, d6], ih.2⟩
theorem scr_all {L : Lim} {K : Nat} (hL : L.Fit) (hK : L.deep + 2 ≤ K) {bs : List Nat} {g : Nat} (hg : (yqn L bs).l.length ≤ g) {ds : List Dc} {E P : Int} (h : scrV L bs = (ds, E, P)) :
 (E = 0 → (scrS L bs.length K g 0 (yqn L bs)).1 = ds ∧ P = 0 ∧ (scrS L bs.length K g 0 (yqn L bs)).2.E = 0) ∧ (E ≠ 0 → ds = [] ∧ (scrS L bs.length K g 0 (yqn L bs)).2.E = E ∧ (scrS L bs.length K g 0 (yqn L bs)).2.P = P) := by
 unfold scrV at h;unfold yqn at hg ⊢
 split at h
 · rename_i hlt
   rw [if_pos hlt];cases h
   refine ⟨fun e => absurd e (by decide), fun _ => ⟨rfl, ?_⟩⟩;rw [yjm _ _ _ _ _ rfl];exact ⟨rfl, rfl⟩
 · rename_i hlt
   rw [if_neg hlt] at hg ⊢;cases e : lexT bs with
   | bad p =>
    rw [e] at h;cases h
    refine ⟨fun e => absurd e (by decide), fun _ => ⟨rfl, ?_⟩⟩;show (scrS L bs.length K g 0 ⟨[], 11, p, [], 0, 0⟩).2.E = _ ∧ (scrS L bs.length K g 0 ⟨[], 11, p, [], 0, 0⟩).2.P = _;rw [yjm _ _ _ _ _ rfl];exact ⟨rfl, rfl⟩
   | ok ts =>
    rw [e] at h hg;dsimp only at h hg;have k := scr_is (L := L) (en := bs.length) hK g 0 ⟨ts, 0, 0, [], 0, 0⟩ rfl (Nat.zero_le _) rfl hg;have hsame : ywh L bs.length g 0 ts 0 = ywh L bs.length ts.length 0 ts 0 := scrT_len L bs.length g 0 ts 0 hg;dsimp only at k;rw [hsame] at k;cases e2 : ywh L bs.length ts.length 0 ts 0 with
    | bad a b =>
     rw [e2] at h k;cases h
     have hd : Dead _ _ _ _ := k;exact ⟨fun e => absurd e hd.ne, fun _ => ⟨rfl, hd.E, hd.P⟩⟩
    | ok dd q m =>
     rw [e2] at h k;cases h
     exact ⟨fun _ => ⟨k.1, rfl, k.2⟩, fun e => absurd rfl e⟩
def frmS (L : Lim) (en K : Nat) (st : St) : St := if (xwu L en K st).l = [] then xwu L en K st else yqc en (xwu L en K st)
theorem frm_all {L : Lim} {K : Nat} (hL : L.Fit) (hK : L.deep + 2 ≤ K) {bs : List Nat} {ts : List Nd} {E P : Int} (h : frmV L bs = (ts, E, P)) :
 (E = 0 → (xwu L bs.length K (yqn L bs)).ts = ts ∧ P = 0 ∧ (frmS L bs.length K (yqn L bs)).E = 0) ∧ (E ≠ 0 → ts = [] ∧ (frmS L bs.length K (yqn L bs)).E = E ∧ (frmS L bs.length K (yqn L bs)).P = P) := by
 obtain ⟨K, rfl⟩ : ∃ m, K = m + 1 := ⟨K - 1, by omega⟩;unfold frmV at h;unfold yqn;have dead : ∀ (st : St) (e p : Int), Dead e p 0 st → (frmS L bs.length (K + 1) st).E = e ∧ (frmS L bs.length (K + 1) st).P = p := fun st e p hd => by
  have ht := hd.tre (L := L) (en := bs.length) K;unfold frmS;rw [if_pos ht.l];exact ⟨ht.E, ht.P⟩
 split at h
 · rename_i hlt
   rw [if_pos hlt];cases h
   exact ⟨fun e => absurd e (by decide), fun _ => ⟨rfl, dead _ 2 0 ⟨rfl, rfl, rfl, rfl, by decide⟩⟩⟩
 · rename_i hlt
   rw [if_neg hlt];cases e : lexT bs with
   | bad p =>
    rw [e] at h;cases h
    exact ⟨fun e => absurd e (by decide), fun _ => ⟨rfl, dead _ 11 p ⟨rfl, rfl, rfl, rfl, by decide⟩⟩⟩
   | ok tk =>
    rw [e] at h;dsimp only at h ⊢;have k := tre_ki (L := L) (en := bs.length) (st := ⟨tk, 0, 0, [], 0, 0⟩) rfl (Nat.zero_le _) rfl hK;dsimp only at k;cases e2 : yjx L bs.length tk 0 with
    | bad a b =>
     rw [e2] at h k;cases h
     have hd : Dead _ _ _ _ := k;refine ⟨fun e => absurd e hd.ne, fun _ => ⟨rfl, ?_⟩⟩;unfold frmS;rw [if_pos hd.l];exact ⟨hd.E, hd.P⟩
    | ok t l n =>
     rw [e2] at h k;obtain ⟨k1, k2, k3, k4, k5, k6⟩ := k;cases l with
     | nil =>
      cases h
      refine ⟨fun _ => ⟨k6, rfl, ?_⟩, fun e => absurd rfl e⟩;unfold frmS;rw [if_pos k2]; exact k1
     | cons x r =>
      cases h
      refine ⟨fun e => absurd e (by decide), fun _ => ⟨rfl, ?_⟩⟩;unfold frmS;rw [if_neg (by rw [k2]; simp)];unfold yqc xjp;rw [if_pos k1, k2];exact ⟨rfl, rfl⟩
set_option maxRecDepth 100000 in
theorem yz5 (n m : Int) (w : World) :
 Calls Tryz.prog 70 #[.int .i64 n, .int .i64 m] w fun x w' => x = .returned (.int .i64 (((max 0 (min n m)).toNat : Nat) : Int)) ∧ w' = w := by
 have hv : (((max 0 (min n m)).toNat : Nat) : Int) = max 0 (min n m) := by omega
 rw [hv];clear hv;go_enter Tryz.func70, Tryz.ntmps70;go_wp2
 go_ret
 exact ⟨rfl, rfl⟩
def NwS (wS : World) (gl : Nat) (U : Array Value) (l : Nat → Bool) (wx : World) : Prop := RowA wx gl 23 U ∧ Below wS.heap.size wS wx
theorem NwS.step {wS wx wy : World} {gl i : Nat} {U : Array Value} {l : Nat → Bool} (hR : Below wx.heap.size wx wy) (h : NwS wS gl U l wx) : NwS wS gl U (fun k => if k = i then true else l k) wy := ⟨h.1.below hR, xqa h.2 hR⟩
theorem sizeLm : (Tryz.prog.info? 23).map (·.size) = some 4 := by kernel_rfl
theorem yvo {q : Nat} {w a b : World} (h : Below w.heap.size w a) (k : a.grownBy b (some q)) (hq : w.heap.size ≤ q) : Below w.heap.size w b :=
 h.grown k (Nat.le_trans (Nat.le_refl _) h.size) (fun g e => by injection e with e; omega)
set_option maxRecDepth 100000 in
theorem pNew_c (s : ByteArray) (hs : s.size ≤ 1000000000) (a b c d : Int) (w : World) (T : PTab w) :
 Calls Tryz.prog 36 #[.string s, .agg #[.int .i64 a, .int .i64 b, .int .i64 c, .int .i64 d]] w fun x w' => ∃ q, x = .returned (.pointer (some ⟨q, 0, none⟩)) ∧ w.heap.size ≤ q ∧ ∃ B, RdW w' B q s.size (xjd a b c d) (yqn (xjd a b c d) (bytesOf s)) ∧ B ≤ w'.heap.size ∧ Below w.heap.size w w' := by
 have HT := hid T;have hX := xqd w 23 #[.int .i64 a, .int .i64 b, .int .i64 c, .int .i64 d];have HX := hid hX;have HBw := hid (xqc w (.cells #[.int .i64 a, .int .i64 b, .int .i64 c, .int .i64 d] 23));clear T hX;go_enter Tryz.func36, Tryz.ntmps36;go_wp2_with fail
 obtain ⟨gl, hgl⟩ : ∃ g, g = w.heap.size := ⟨_, rfl⟩;rw [← hgl] at HX ⊢;clear hgl;generalize w.alloc (.cells #[.int .i64 a, .int .i64 b, .int .i64 c, .int .i64 d] 23) = wS at *
 refine xwv 17 1 8 [some 6, some 7, some 8, some 9, some 10, some 11, some 12, some 13, some 14, some 15, some 16, some 17, some 18, some 19, some 20, some 21, some 22] ?aFn (fun _ wx wy => Below wx.heap.size wx wy) (NwS wS gl #[.int .i64 a, .int .i64 b, .int .i64 c, .int .i64 d]) (fun k vv wx => match k with
  | 0 => vv = .string s
  | 1 => vv = .int .i64 (s.size : Int)
  | 2 => vv = .pointer (some ⟨gl, 0, none⟩)
  | 3 => vv = .int .i64 a
  | 4 => vv = .int .i64 ((xjd a b c d).text : Int)
  | 5 => vv = .pointer (some ⟨gl, 1, none⟩)
  | 6 => vv = .int .i64 b
  | 7 => vv = .int .i64 ((xjd a b c d).deep : Int)
  | 8 => vv = .pointer (some ⟨gl, 2, none⟩)
  | 9 => vv = .int .i64 c
  | 10 => vv = .int .i64 ((xjd a b c d).nodes : Int)
  | 11 => vv = .pointer (some ⟨gl, 3, none⟩)
  | 12 => vv = .int .i64 d
  | 13 => vv = .int .i64 ((xjd a b c d).power : Int)
  | 14 => vv = .agg (limK (xjd a b c d))
  | 15 => vv = .agg (rdC none 0 0 s.size (xjd a b c d) 0 0 none 0 0 0 0)
  | _ => ∃ g, vv = .pointer (some ⟨g, 0, none⟩) ∧ RowA wx g 71 (rdC none 0 0 s.size (xjd a b c d) 0 0 none 0 0 0 0) ∧ wS.heap.size ≤ g)
  (by kernel_rfl) ?haFn rfl (by kernel_rfl) (by kernel_rfl) (fun _ _ _ _ _ h => h) ?hSbn ?hPbn ?hSn ?hopn ?hfinn
 case haFn =>
  intro vals;simp only [xqx, dAt, Act.put, List.setIfInBounds_toArray, List.set_cons_zero, List.set_cons_succ];exact rfl
 case hSbn => exact fun i l wx wy hi hl hR h => NwS.step hR h
 case hPbn =>
  intro k j v wa wb hk hkj hb h
  match j, h with
  | 0, h => exact h
  | 1, h => exact h
  | 2, h => exact h
  | 3, h => exact h
  | 4, h => exact h
  | 5, h => exact h
  | 6, h => exact h
  | 7, h => exact h
  | 8, h => exact h
  | 9, h => exact h
  | 10, h => exact h
  | 11, h => exact h
  | 12, h => exact h
  | 13, h => exact h
  | 14, h => exact h
  | 15, h => exact h
  | _ + 16, ⟨g, e1, g1, g2⟩ => exact ⟨g, e1, g1.below hb, g2⟩
 case hSn => exact ⟨HX.out.drew, (Below.refl _ _).drew⟩
 case hopn =>
  refine .cons (k := 0) ?_ (.cons (k := 1) ?_ (.cons (k := 2) ?_ (.cons (k := 3) ?_ (.cons (k := 4) ?_ (.cons (k := 5) ?_ (.cons (k := 6) ?_ (.cons (k := 7) ?_ (.cons (k := 8) ?_ (.cons (k := 9) ?_ (.cons (k := 10) ?_ (.cons (k := 11) ?_ (.cons (k := 12) ?_ (.cons (k := 13) ?_ (.cons (k := 14) ?_ (.cons (k := 15) ?_ (.cons (k := 16) ?_ (.nil)))))))))))))))))
  all_goals intro vals wr l hl hS hd KC hKx
  all_goals (show Oper.wp _ _ _ _ _ _; dsimp only)
  · go_simp;refine hKx _ _ rfl (Below.refl _ _) (by first | rfl | simp)
  · have d0 : vals 0 = _ := hd 0 (by decide +kernel);rw [d0];go_simp;refine hKx _ _ rfl (Below.refl _ _) (by first | rfl | simp)
  · go_simp;refine hKx _ _ rfl (Below.refl _ _) (by first | rfl | simp)
  · have d2 : vals 2 = _ := hd 2 (by decide +kernel);rw [d2];have z0 := hS.1.cell (k := 0) (v := .int .i64 a) rfl;go_simp;refine hKx _ _ rfl (Below.refl _ _) (by first | rfl | simp)
  · have d3 : vals 3 = _ := hd 3 (by decide +kernel);rw [d3];go_simp;go_at_call 70
    refine (yz5 a 4000 _).mono ?_;rintro e w9 ⟨rfl, rfl⟩;refine hKx _ _ rfl (Below.refl _ _) rfl
  · go_simp;refine hKx _ _ rfl (Below.refl _ _) (by first | rfl | simp)
  · have d5 : vals 5 = _ := hd 5 (by decide +kernel);rw [d5];have z0 := hS.1.cell (k := 1) (v := .int .i64 b) rfl;go_simp;refine hKx _ _ rfl (Below.refl _ _) (by first | rfl | simp)
  · have d6 : vals 6 = _ := hd 6 (by decide +kernel);rw [d6];go_simp;go_at_call 70
    refine (yz5 b 60 _).mono ?_;rintro e w9 ⟨rfl, rfl⟩;refine hKx _ _ rfl (Below.refl _ _) rfl
  · go_simp;refine hKx _ _ rfl (Below.refl _ _) (by first | rfl | simp)
  · have d8 : vals 8 = _ := hd 8 (by decide +kernel);rw [d8];have z0 := hS.1.cell (k := 2) (v := .int .i64 c) rfl;go_simp;refine hKx _ _ rfl (Below.refl _ _) (by first | rfl | simp)
  · have d9 : vals 9 = _ := hd 9 (by decide +kernel);rw [d9];go_simp;go_at_call 70
    refine (yz5 c 2000 _).mono ?_;rintro e w9 ⟨rfl, rfl⟩;refine hKx _ _ rfl (Below.refl _ _) rfl
  · go_simp;refine hKx _ _ rfl (Below.refl _ _) (by first | rfl | simp)
  · have d11 : vals 11 = _ := hd 11 (by decide +kernel);rw [d11];have z0 := hS.1.cell (k := 3) (v := .int .i64 d) rfl;go_simp;refine hKx _ _ rfl (Below.refl _ _) (by first | rfl | simp)
  · have d12 : vals 12 = _ := hd 12 (by decide +kernel);rw [d12];go_simp;go_at_call 70
    refine (yz5 d 64 _).mono ?_;rintro e w9 ⟨rfl, rfl⟩;refine hKx _ _ rfl (Below.refl _ _) rfl
  · have d4 : vals 4 = _ := hd 4 (by decide +kernel);have d7 : vals 7 = _ := hd 7 (by decide +kernel);have d10 : vals 10 = _ := hd 10 (by decide +kernel);have d13 : vals 13 = _ := hd 13 (by decide +kernel);rw [d4, d7, d10, d13];refine xw9 _ _ rfl _ (by rfl) _ (hid (fun W => by kernel_rfl : ∀ W, (Instr.build 23 ([(0, .int .i64 ((xjd a b c d).text : Int)), (1, .int .i64 ((xjd a b c d).deep : Int)), (2, .int .i64 ((xjd a b c d).nodes : Int)), (3, .int .i64 ((xjd a b c d).power : Int))] : List (Nat × Value)).toArray).run Tryz.prog W = .ok (.agg (limK (xjd a b c d))) W)) ?_;refine hKx _ _ rfl (Below.refl _ _) (by first | rfl | simp)
  · have d1 : vals 1 = _ := hd 1 (by decide +kernel);have d14 : vals 14 = _ := hd 14 (by decide +kernel);rw [d1, d14];refine xw9 _ _ rfl _ (by rfl) _ (hid (fun W => by kernel_rfl : ∀ W, (Instr.build 71 ([(1, .int .i64 (s.size : Int)), (2, .agg (limK (xjd a b c d)))] : List (Nat × Value)).toArray).run Tryz.prog W = .ok (.agg (rdC none 0 0 s.size (xjd a b c d) 0 0 none 0 0 0 0)) W)) ?_;refine hKx _ _ rfl (Below.refl _ _) (by first | rfl | simp)
  · have d15 : vals 15 = _ := hd 15 (by decide +kernel);rw [d15];go_simp;refine hKx _ _ rfl (xqc _ _) ⟨_, rfl, xqd wr _ _, hS.2.size⟩
 case hfinn =>
  intro vals wr l hl hS hP;obtain ⟨q, ez_16, hrow, hqg⟩ := hP 16 (by decide);have hbw := hS.2;clear hS hP
  try dsimp only
  rw [ez_16];clear ez_16;refine wpAny_ready (rs := [17]) (by kernel_rfl) (by simp) (AllReady.cons rfl (fun KC hKC => ?_) AllReady.nil);go_simp;refine hKC _ _ ?_;clear hKC KC;refine wpAny_done (by kernel_rfl) ?_ _;generalize wr = w2 at *;clear hl;have hq0 : q0 < q := Nat.lt_of_lt_of_le HT.out.lt (Nat.le_trans HBw.out.size hqg);have hB2 := xqa HBw.out hbw;have hrd : RdW w2 w2.heap.size q s.size (xjd a b c d) (⟨[], 0, 0, [], 0, 0⟩ : St) := ⟨none, 0, 0, none, 0, 0, [], hrow, TokX.none _ _ (Nat.zero_le _), ⟨rfl, OwnR.nil _ _ _ _⟩, rfl, fun _ => rfl, hrow.lt, ⟨HT.out.below hB2, hq0⟩, (fun t ht => by cases ht), fun h => absurd rfl h⟩;have c1 := hrow.cell (k := 1) (v := .int .i64 (s.size : Int)) rfl;have c2 := hrow.cell (k := 2) (v := .int .i64 ((xjd a b c d).text : Int)) rfl;have H2 := hid hrd;have HR2 := hid hrow;have HB2 := hid hB2;have HQ := hid (Nat.le_trans HBw.out.size hqg);have hft := (cutL_fit a b c d).2.2.2;clear hrd hrow hB2 hqg hbw hq0;by_cases hlt : (xjd a b c d).text < s.size
  · skip
    have hlt2 : ((xjd a b c d).text : Int) < (s.size : Int) := by omega
    have HL := hid hlt;clear hlt;go_wp2_with fail
    go_quiet (fail)
    have bq := below_drewN (Below.refl w2.heap.size w2) nq;have H3 := hid (H2.out.below bq);have HB3 := hid (xqa HB2.out bq);have HR3 := hid (HR2.out.below bq);have hw23 : Hid (w2.heap.size ≤ (w2.drewN nq).heap.size) := bq.size;generalize w2.drewN nq = w3 at *;clear bq H2 HB2 HR2 c1 c2;go_wp2_with fail
    refine (pFail_c H3.out 2 0 (by decide)).mono ?_;rintro e w4 ⟨rfl, h4, hg⟩;have hst : xjp 2 0 (⟨[], 0, 0, [], 0, 0⟩ : St) = yqn (xjd a b c d) (bytesOf s) := by unfold yqn xjp; rw [xqe, if_pos HL.out]; rfl
    rw [hst] at h4;have HB4 := hid (yvo HB3.out hg HQ.out);have hsz : Hid (w3.heap.size ≤ w4.heap.size) := hg.size;have H4 := hid h4;clear h4 hg hst;go_wp2
    refine bodyPost_ret (results_tmp rfl _ _ _) rfl ?_;exact ⟨q, rfl, HQ.out, _, H4.out, Nat.le_trans hw23.out hsz.out, HB4.out⟩
  · skip
    have hlt2 : ¬ ((xjd a b c d).text : Int) < (s.size : Int) := by omega
    have HL := hid hlt;have h4k : ¬ 4000 < (bytesOf s).length := by rw [xqe]; omega
    obtain ⟨ts, E, P, hlx⟩ : ∃ ts E P, lexV (bytesOf s) = (ts, E, P) := ⟨_, _, _, rfl⟩;have hini : yqn (xjd a b c d) (bytesOf s) = ⟨ts, E, P, [], 0, 0⟩ ∧ (∀ t ∈ ts, TkF t) ∧ (E ≠ 0 → ts = []) := by
     unfold yqn;rw [xqe, if_neg HL.out];cases e : lexT (bytesOf s) with
     | ok us =>
      rw [lexV_ok h4k e] at hlx;cases hlx
      exact ⟨rfl, toksF (xjg s) e, fun h => absurd rfl h⟩
     | bad p =>
      rw [lexV_bad h4k e] at hlx;cases hlx
      exact ⟨rfl, fun t ht => (by cases ht), fun _ => rfl⟩
    have HI := hid hini;have Hlx := hid hlx;clear hlt hini hlx h4k;go_wp2_with fail
    go_quiet (fail)
    have bq := below_drewN (Below.refl w2.heap.size w2) nq;have H3 := hid (H2.out.below bq);have HB3 := hid (xqa HB2.out bq);have HR3 := hid (HR2.out.below bq);generalize w2.drewN nq = w3 at *;clear bq H2 HB2 HR2 c1 c2;have c0 := HR3.out.cell (k := 0) (v := .slice none 0 0) rfl;have c6 := HR3.out.cell (k := 6) (v := .int .i64 0) rfl;have c7 := HR3.out.cell (k := 7) (v := .int .i64 0) rfl;go_wp2_with fail
    refine (lkTokens_c s hs w3 H3.out.tabs.1 ts E P Hlx.out).mono ?_;rintro e w4 ⟨A4, n4, c4, rfl, ht, bn⟩;have HR4 := HR3.out.below bn;have f0 := HR4.free 0;have f6 := HR4.free 6;have f7 := HR4.free 7;have c0 := HR4.cell (k := 0) (v := .slice none 0 0) rfl;have c6 := HR4.cell (k := 6) (v := .int .i64 0) rfl;have c7 := HR4.cell (k := 7) (v := .int .i64 0) rfl;have hg1 := xqs w4 q 0 (.slice A4 n4 c4);have hg2 := xqs (w4.setCell ⟨q, 0, none⟩ (.slice A4 n4 c4)) q 6 (.int .i64 E);have hg3 := xqs ((w4.setCell ⟨q, 0, none⟩ (.slice A4 n4 c4)).setCell ⟨q, 6, none⟩ (.int .i64 E)) q 7 (.int .i64 P);have hgA := gr_trans (gr_trans hg1 hg2) hg3;have hrowA := (((HR4.set 0 (.slice A4 n4 c4)).set 6 (.int .i64 E)).set 7 (.int .i64 P));have hB4 := xqa HB3.out bn;have HB5 := hid (yvo hB4 hgA HQ.out);have HF : Hid (RdW (((w4.setCell ⟨q, 0, none⟩ (.slice A4 n4 c4)).setCell ⟨q, 6, none⟩ (.int .i64 E)).setCell ⟨q, 7, none⟩ (.int .i64 P)) w4.heap.size q s.size (xjd a b c d) (yqn (xjd a b c d) (bytesOf s))) := by
     show RdW _ _ _ _ _ _;rw [HI.out.1];obtain ⟨_, _, _, _, _, _, _, r1, _, _, _, _, _, r7, _⟩ := H3.out;refine ⟨A4, n4, c4, none, 0, 0, [], hrowA, (ht.tokX (Nat.le_refl _)).kn (Kn.of hgA) HR4, ⟨rfl, OwnR.nil _ _ _ _⟩, rfl, fun _ => rfl, HR4.lt, ?_, HI.out.2⟩;exact (r7.below bn).kn (Kn.of (B := w4.heap.size) hgA) HR4.lt
    have hsz : Hid (w4.heap.size ≤ (((w4.setCell ⟨q, 0, none⟩ (.slice A4 n4 c4)).setCell ⟨q, 6, none⟩ (.int .i64 E)).setCell ⟨q, 7, none⟩ (.int .i64 P)).heap.size) := hgA.size;clear bn hg1 hg2 hg3 hgA hrowA hB4 ht HR4;go_wp2
    go_ret
    exact ⟨q, rfl, HQ.out, _, HF.out, hsz.out, HB5.out⟩
end Go.Proofs.YtannifhcjcbkcaaGreatDoor
