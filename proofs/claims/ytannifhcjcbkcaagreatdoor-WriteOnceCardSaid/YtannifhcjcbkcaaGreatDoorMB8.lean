/- Part 8 of the texts that the statements of this seat lean on: mathematics, and what functions answer, as contracts over memory; each part says its own conditions. -/
import Derived.Test.YtannifhcjcbkcaaGreatDoorMB7
import Derived.BigQuiet
import Derived.Deep.QuietTactic
set_option linter.unusedVariables false
set_option maxHeartbeats 8000000
namespace Go.Proofs.YtannifhcjcbkcaaGreatDoor
open Go.RowKit Limb
open Lib (hid)
section
variable {w : World} {B q en : Nat} {L : Lim} {st : St}
theorem yjy {P : Program} {o : Oper} {a : Act} {w : World} {K : Act → World → Prop} {Q : Exit → Act → World → Prop} (ty : TypeId) (len : Nat) (parts : Array (Nat × Operand)) (ho : o.op = .buildSlice ty len parts) (ps : List (Nat × Value)) (hp : parts.toList.map (fun p => (p.1, a.eval p.2)) = ps) (v : Value) (w' : World) (hr : Hid ((Instr.buildSlice ty len ps.toArray).run P w = .ok v w'))
 (h : K (a.put o.dst v) w') : o.wp P a w K Q := by
 have e : (parts.map fun (i, x) => (i, a.eval x)) = ps.toArray := by
  rw [← hp];apply Array.ext'
  simp
 unfold Oper.wp execOp;simp only [ho, e, hr.out, Sem.run_bind, Sem.run_pure, Result.andThen_ok];exact h
theorem slice_node (x : Nd) (W : World) : (Instr.buildSlice 33 1 ([(0, .agg (ndV x))] : List (Nat × Value)).toArray).run Tryz.prog W = .ok (.slice (some ⟨W.heap.size, 0, none⟩) 1 1) (W.alloc (.cells (ndV x) 51)) := by kernel_rfl
theorem Kn.grown {B q m d : Nat} {C : Option Addr} {xs : List Value} {w w' : World} (h : OwnR w B 51 7 C m d xs) (hg : w.grownBy w' (Value.ownBlock (.slice C m d))) : Kn B q w w' :=
 ⟨hg.os, hg.tape, hg.output, hg.size, fun i hi hq hn => hg.block i hi fun e => by
   rcases h.2 with ⟨hv, _⟩ | ⟨g, cap, cur, hv, hB, hgc, _⟩
   · rw [hv] at e; cases e
   · rw [hv] at e;have e3 : i = g := by injection e
     subst e3
     exact hn hB cur (0, 0) hgc⟩
def NoR (k : Nat) (C : Option Addr) (m d : Nat) (i : Nat) (wx wy : World) : Prop := if i = k then wx.grownBy wy (Value.ownBlock (.slice C m d)) else Below wx.heap.size wx wy
theorem NoR.of {k : Nat} {C : Option Addr} {m d i : Nat} {wx wy : World} (h : Below wx.heap.size wx wy) (hi : i ≠ k) : NoR k C m d i wx wy := by unfold NoR; rw [if_neg hi]; exact h
theorem NoR.row {k : Nat} {C : Option Addr} {m d i : Nat} {wx wy : World} (h : NoR k C m d i wx wy) {g : Nat} {T : TypeId} {V : Array Value} (r : RowA wx g T V) (hg : Value.ownBlock (.slice C m d) ≠ some g) : RowA wy g T V := by
 unfold NoR at h
 split at h
 · exact r.grown h hg
 · exact r.below h
def NoS (wS : World) (B q qx : Nat) (V X : Array Value) (C : Option Addr) (m d : Nat) (xs : List Value) (l : Nat → Bool) (wx : World) : Prop :=
 RowA wx q 71 V ∧ RowA wx qx 51 X ∧ wS.heap.size ≤ wx.heap.size ∧ Kn B q wS wx ∧ (l 7 = false → OwnR wx B 51 7 C m d xs)
theorem NoS.step {wS : World} {B q qx : Nat} {V X : Array Value} {C : Option Addr} {m d i : Nat} {xs : List Value} {l : Nat → Bool} {wx wy : World} (hq : Value.ownBlock (.slice C m d) ≠ some q) (hqx : Value.ownBlock (.slice C m d) ≠ some qx) (hl : l i = false) (hR : NoR 7 C m d i wx wy) (h : NoS wS B q qx V X C m d xs l wx) :
 NoS wS B q qx V X C m d xs (fun j => if j = i then true else l j) wy := by
 obtain ⟨h1, h2, h3, h4, h5⟩ := h;by_cases hi : i = 7
 · subst hi;have ho := h5 hl;have hg := hR;unfold NoR at hg;rw [if_pos rfl] at hg;exact ⟨h1.grown hg hq, h2.grown hg hqx, Nat.le_trans h3 hg.size, h4.trans (Kn.grown ho hg), fun e => by dsimp only at e; rw [if_pos rfl] at e; cases e⟩
 · have hg := hR;unfold NoR at hg;rw [if_neg hi] at hg;exact ⟨h1.below hg, h2.below hg, Nat.le_trans h3 hg.size, h4.trans (Kn.below hg), fun e => by dsimp only at e; rw [if_neg (Ne.symm hi)] at e; exact (h5 e).below hg⟩
theorem rdC_nodes {w : World} {q en en2 : Nat} {L L2 : Lim} {A A2 C C2 : Option Addr} {n n2 c c2 m m2 d d2 : Nat} {E E2 P P2 mk mk2 op op2 : Int} (h : RowA w q 71 (rdC A n c en L E P C m d mk op)) (k : RowA w q 71 (rdC A2 n2 c2 en2 L2 E2 P2 C2 m2 d2 mk2 op2)) : C2 = C ∧ m2 = m ∧ d2 = d := by
 unfold RowA at h k;rw [h] at k;injection k with k
 injection k with k _ _
 have e := congrArg (fun V : Array Value => V[8]?) k;simp only [List.getElem?_toArray, List.getElem?_cons_succ, List.getElem?_cons_zero, Option.some.injEq] at e;injection e with e1 e2 e3
 exact ⟨e1.symm, e2.symm, e3.symm⟩
theorem nodP_mad (L : Lim) (p : Int) (st : St) : (xwb L p st).mad = st.mad := by
 unfold xwb xjp
 split
 · split <;> rfl
 · rfl
theorem nodP_ts (L : Lim) (p : Int) (st : St) : (xwb L p st).ts = st.ts := by
 unfold xwb xjp
 split
 · split <;> rfl
 · rfl
theorem nodP_E {L : Lim} {p : Int} {st : St} (h : (xwb L p st).E = 0) : st.E = 0 := by
 unfold xwb xjp at h
 split at h
 · split at h
   · cases h
   · exact h
 · exact h
set_option maxRecDepth 100000 in
theorem yv0 (h : RdW w B q en L st) (hB : B ≤ w.heap.size) (hfit : st.ts.length ≤ 1000000 ∧ st.mad ≤ 1000000) (x x2 : Nd) (hxp : x2.p = x.p) (hx : st.E = 0 → x = x2) :
 Calls Tryz.prog 144 #[.pointer (some ⟨q, 0, none⟩), .agg (ndV x)] w fun e w' => e = .returned (.tuple #[]) ∧ RdW w' B q en L (zqt L x2 st) ∧ Kn B q w w' := by
 obtain ⟨A0, n0, c0, C, m, d, ts0, r1, r2, r3, r4, r5, r6, r7, r8⟩ := id h;have hox : Hid (Value.ownBlock (.slice C m d) ≠ some w.heap.size) := fun e => by have := (r3.2.lt _ e).2; omega
 have hlt := h.lt;have bn := xqc w (.cells (ndV x) 51);have HX := xqd w 51 (ndV x);have H1 := hid (h.below bn);have K1 := hid (Kn.below (B := B) (q := q) bn);have R1 := r1.below bn;obtain ⟨qx, hqx⟩ : ∃ g, g = w.heap.size := ⟨_, rfl⟩;rw [← hqx] at HX hox;have Hqx := hid hqx;have Hlt := hid hlt;have HBw := hid hB;have HFt := hid hfit;have HX := hid HX;have HU := hid (xz0 x x);have R1 := hid R1;have HE0 := hid hx;clear h bn hlt hB hfit r1 r2 r3 r4 r5 r6 r7 r8 hx;go_enter Tryz.func144, Tryz.ntmps144;go_wp2_with fail
 rw [← hqx];clear hqx;generalize w.alloc (.cells (ndV x) 51) = w1 at *;have k9 := R1.out.cell (k := 9) (v := .int .i64 (st.mad : Int)) rfl;have k4 := R1.out.cell (k := 4) (v := .int .i64 (L.nodes : Int)) rfl;by_cases hmk : st.mad = L.nodes
 · have e1 : ((st.mad : Int) == (L.nodes : Int)) = true := by rw [hmk]; simp
   have y9 := R1.out.drew.cell (k := 9) (v := .int .i64 (st.mad : Int)) rfl;have kx := HX.out.cell (k := 6) (v := .int .i64 x.p) rfl;have hP : Hid (xwb L x.p st = xjp 2 x.p st) := by show _ = _; unfold xwb; rw [if_pos hmk]
   clear hmk
   go_quiet (fail)
   have bq := below_drewN (Below.refl w1.heap.size w1) nq;have H2 := hid (H1.out.below bq);have K2 := hid (K1.out.trans (Kn.below (B := B) (q := q) bq));have R2 := hid (R1.out.below bq);have X2 := hid (HX.out.below bq);generalize w1.drewN nq = w2 at *;have kx := X2.out.cell (k := 6) (v := .int .i64 x.p) rfl;clear k9 k4 y9 bq H1 K1 R1 HX;go_wp2_with fail
   refine (pFail_x H2.out 2 x.p (by decide)).mono ?_;rintro e wB ⟨rfl, hS, hg, hx9⟩;obtain ⟨A5, n5, c5, E5, P5, hRB⟩ := hx9 _ _ _ _ _ _ _ _ _ _ R2.out;have HS : Hid (RdW wB B q en L (xwb L x.p st)) := by show RdW _ _ _ _ _ _; rw [hP.out]; exact hS
   have KB := hid (K2.out.trans (Kn.of (B := B) hg));have HXb : Hid (RowA wB qx 51 (ndV x)) := X2.out.grown hg (fun e => by injection e with e; have := Hqx.out; have := Hlt.out; omega);have RB := hid hRB;clear hS hg hx9 hRB H2 K2 R2 X2 kx hP;obtain ⟨A, n, c, C2, m2, d2, ts, h1, h2, h3, h4, h5, h6, h7, h8⟩ := id HS.out;obtain ⟨rfl, rfl, rfl⟩ := rdC_nodes h1 RB.out;have hmd : (xwb L x.p st).mad = st.mad := nodP_mad L x.p st;rw [hmd] at h1;generalize hE9 : (xwb L x.p st).E = E9 at h1 h5;generalize hP9 : (xwb L x.p st).P = P9 at h1;generalize ho9 : (xwb L x.p st).op = op9 at h1;have hm6 : Hid (m ≤ 1000000) := by show _ ≤ _; rw [h3.1, h4, (nodP_ts L x.p st)]; exact HFt.out.1
   have hk6 : (st.mad : Int) ≤ 1000000 := by have := HFt.out.2; omega
   have hoq := hid (h3.2.differ h1 yzy);have k9 := h1.cell (k := 9) (v := .int .i64 (st.mad : Int)) rfl;have f9 := h1.free 9;have HR := hid (h1.set 9 (.int .i64 ((st.mad : Int) + 1)));have hg9 := xqs wB q 9 (.int .i64 ((st.mad : Int) + 1));have HK := hid (KB.out.trans (Kn.of hg9));have HOt := hid (h3.q h1 hg9);have HO := hid HOt.out.2;have HX2 := hid (HXb.out.far (show q ≠ qx by have := Hqx.out; have := Hlt.out; omega) 9 (.int .i64 ((st.mad : Int) + 1)));have hBS : Hid (B ≤ (wB.setCell ⟨q, 9, none⟩ (.int .i64 ((st.mad : Int) + 1))).heap.size) := by show _ ≤ _; rw [World.size_setCell]; have := KB.out.size; have := HBw.out; omega
   have HTok := hid (h2.kn (Kn.of (B := B) hg9) h1);have HTb := hid (h7.kn (Kn.of hg9) h6);have H45 := hid (And.intro h4 h5);have H68 := hid (And.intro h6 h8);have HEP : Hid ((xwb L x.p st).E = E9 ∧ (xwb L x.p st).P = P9 ∧ (xwb L x.p st).op = op9) := ⟨hE9, hP9, ho9⟩;have Hmd := hid hmd;have h0q : (0 : Int) ≤ (st.mad : Int) := by omega
   clear h1 h2 h3 h4 h5 h6 h7 h8 hg9 HS KB HXb RB hE9 hP9 ho9 hmd;go_wp2_with fail
   generalize wB.setCell ⟨q, 9, none⟩ (.int .i64 ((st.mad : Int) + 1)) = wS at *;clear k9 f9 h0q hk6
   refine ywi 10 1 [some 25, some 26, some 27, some 28, some 29, some 30, some 31, some 32, some 33, some 34] ?aFq1 (NoR 7 C m d) (NoS wS B q qx (rdC A n c en L E9 P9 C m d ((st.mad : Int) + 1) (op9 : Int)) (ndV x) C m d (xql ts)) (fun k vv wx => match k with
    | 0 => vv = .pointer (some ⟨q, 0, none⟩)
    | 1 => vv = .pointer (some ⟨q, 0, none⟩)
    | 2 => vv = .pointer (some ⟨q, 0, none⟩)
    | 3 => vv = .pointer (some ⟨q, 8, none⟩)
    | 4 => vv = .slice C m d
    | 5 => vv = .agg (ndV x)
    | 6 => ∃ g, vv = .slice (some ⟨g, 0, none⟩) 1 1 ∧ RowA wx g 51 (ndV x) ∧ wS.heap.size ≤ g
    | 7 => ∃ A2 c2, vv = .slice A2 (m + 1) c2 ∧ OwnR wx B 51 7 A2 (m + 1) c2 (xql ts ++ (ndV x).toList)
    | 8 => vv = .pointer (some ⟨q, 0, none⟩)
    | _ => vv = .pointer (some ⟨q, 8, none⟩))
    (by kernel_rfl) ?haFq1 rfl (by kernel_rfl) (by kernel_rfl) (fun _ _ _ _ _ h => h) ?hSbq1 ?hPbq1 ?hSq1 ?hopq1 ?hfinq1
   case haFq1 =>
    intro vals;simp only [xqx, dAt, Act.put, List.setIfInBounds_toArray, List.set_cons_zero, List.set_cons_succ];exact rfl
   case hSbq1 => exact fun i l wx wy hi hl hR h => NoS.step hoq.out hox.out hl hR h
   case hPbq1 =>
    intro k j v wa wb hk hkj hb h
    match j, h with
    | 0, h => exact h
    | 1, h => exact h
    | 2, h => exact h
    | 3, h => exact h
    | 4, h => exact h
    | 5, h => exact h
    | 6, ⟨g, e1, g1, g2⟩ => exact ⟨g, e1, hb.row g1 (fun e => by have := (HO.out.lt g e).2; omega), g2⟩
    | 7, ⟨A2, c2, e1, g1⟩ =>
     unfold NoR at hb;rw [if_neg (by omega)] at hb;exact ⟨A2, c2, e1, g1.below hb⟩
    | 8, h => exact h
    | _ + 9, h => exact h
   case hSq1 => exact ⟨HR.out, HX2.out, Nat.le_refl _, Kn.below (Below.refl _ _).drew, fun _ => HO.out⟩
   case hopq1 =>
    refine .cons (k := 0) ?_ (.cons (k := 1) ?_ (.cons (k := 2) ?_ (.cons (k := 3) ?_ (.cons (k := 4) ?_ (.cons (k := 5) ?_ (.cons (k := 6) ?_ (.cons (k := 7) ?_ (.cons (k := 8) ?_ (.cons (k := 9) ?_ (.nil))))))))))
    all_goals intro vals wr l hl hS hd KC hKx
    all_goals (show Oper.wp _ _ _ _ _ _; dsimp only)
    · go_simp;refine hKx _ _ rfl (NoR.of (Below.refl _ _) (by decide)) (by first | rfl | simp)
    · go_simp;refine hKx _ _ rfl (NoR.of (Below.refl _ _) (by decide)) (by first | rfl | simp)
    · have d1 : vals 1 = _ := hd 1 (by decide +kernel);rw [d1];go_simp;refine hKx _ _ rfl (NoR.of (Below.refl _ _) (by decide)) (by first | rfl | simp)
    · have d2 : vals 2 = _ := hd 2 (by decide +kernel);rw [d2];go_simp;refine hKx _ _ rfl (NoR.of (Below.refl _ _) (by decide)) (by first | rfl | simp)
    · have d3 : vals 3 = _ := hd 3 (by decide +kernel);rw [d3];have z0 := hS.1.cell (k := 8) rfl;go_simp;refine hKx _ _ rfl (NoR.of (Below.refl _ _) (by decide)) (by first | rfl | simp)
    · refine xq1 51 _ rfl qx 0 rfl (ndV x) (hid hS.2.1.inV) (hid (manyN x)) ?_;refine hKx _ _ rfl (NoR.of (Below.refl _ _) (by decide)) (by first | rfl | simp)
    · have d5 : vals 5 = _ := hd 5 (by decide +kernel);rw [d5];refine yjy _ _ _ rfl _ (by rfl) _ _ (hid (slice_node x wr)) ?_;refine hKx _ _ rfl (NoR.of (xqc _ _) (by decide)) ⟨_, rfl, xqd wr _ _, hS.2.2.1⟩
    · have d4 : vals 4 = _ := hd 4 (by decide +kernel);obtain ⟨g, d6, g1, g2⟩ := hd 6 (by decide +kernel);rw [d4, d6];have HOx := hid (hS.2.2.2.2 hl);have HYx : Hid (RowA wr g 51 (ndV x) ∧ (ndV x).size = 7 ∧ ∀ v ∈ ndV x, v.oneCell' = true) := ⟨g1, rfl, zqw x⟩;have HEx : Hid (m ≤ 1000000 ∧ B ≤ wr.heap.size) := ⟨hm6.out, Nat.le_trans hBS.out hS.2.2.1⟩;refine yqo _ _ 33 rfl B 51 7 yw5 C m d (xql ts) rfl HOx g rfl 51 (ndV x) HYx HEx ?_;intro A2 c2 w2 hO2 hg2;refine hKx _ _ rfl (by unfold NoR; rw [if_pos rfl]; exact hg2.out) ⟨A2, c2, rfl, hO2.out⟩
    · have d0 : vals 0 = _ := hd 0 (by decide +kernel);rw [d0];go_simp;refine hKx _ _ rfl (NoR.of (Below.refl _ _) (by decide)) (by first | rfl | simp)
    · have d8 : vals 8 = _ := hd 8 (by decide +kernel);rw [d8];go_simp;refine hKx _ _ rfl (NoR.of (Below.refl _ _) (by decide)) (by first | rfl | simp)
   case hfinq1 =>
    intro vals wr l hl hS hP;obtain ⟨A2, c2, ez_7, hO7⟩ := hP 7 (by decide);have ez_9 : vals 9 = _ := hP 9 (by decide);have c0x := hS.1.cell (k := 8) rfl;have f0x := hS.1.free 8;have hR2 := hid (hS.1.set 8 (.slice A2 (m + 1) c2));have hK2 := hid (hS.2.2.2.1.trans (Kn.of (xqs wr q 8 (.slice A2 (m + 1) c2))));have hO2 := hid (hO7.over (xqs wr q 8 (.slice A2 (m + 1) c2)) (fun g e => by cases e; exact hO7.differ hS.1 yzy));clear hS hP hO7 hl
    try dsimp only
    rw [ez_7, ez_9];clear ez_7 ez_9;refine wpAny_ready (rs := [10]) (by kernel_rfl) (by simp) (AllReady.cons rfl (fun KC hKC => ?_) AllReady.nil);go_simp;refine hKC _ _ ?_;clear hKC KC c0x f0x;refine wpAny_done (by kernel_rfl) ?_ _;generalize wr.setCell ⟨q, 8, none⟩ (.slice A2 (m + 1) c2) = wN at *;have hEst : (addS x2 (xwb L x.p st)).E = 0 → st.E = 0 := fun e => nodP_E e
    have hst : zqt L x2 st = addS x2 (xwb L x.p st) := by unfold zqt; rw [hxp]
    have hK3 := HK.out.trans hK2.out;have hfin : RdW wN B q en L (zqt L x2 st) := by
     rw [hst];refine ⟨A, n, c, A2, m + 1, c2, ts ++ [x], ?_, ?_, ⟨?_, ?_⟩, ?_, ?_, H68.out.1, ?_, H68.out.2⟩
     · have h9 := hR2.out;show RowA _ _ _ (rdC A n c en L (xwb L x.p st).E (xwb L x.p st).P A2 (m + 1) c2 (((xwb L x.p st).mad + 1 : Nat) : Int) (((xwb L x.p st).op : Nat) : Int));rw [HEP.out.1, HEP.out.2.1, HEP.out.2.2, Hmd.out];exact h9
     · exact HTok.out.kn hK2.out HR.out
     · rw [List.length_append, ← HOt.out.1]; rfl
     · rw [ywk]; exact hO2.out
     · show _ = ((xwb L x.p st).ts ++ [x2]).length;rw [List.length_append, List.length_append, H45.out.1]; rfl
     · intro e;have e2 : E9 = 0 := HEP.out.1.symm.trans e;show _ = (xwb L x.p st).ts ++ [x2];rw [H45.out.2 e2, HE0.out (hEst e)]
     · exact HTb.out.kn hK2.out H68.out.1
    go_wp2
    go_end0
    exact ⟨rfl, hfin, hK3⟩
 · have e1 : ((st.mad : Int) == (L.nodes : Int)) = false := by rw [beq_eq_false_iff_ne]; omega
   have hP : Hid (xwb L x.p st = st) := by show _ = _; unfold xwb; rw [if_neg hmk]
   clear hmk
   go_quiet (fail)
   have bq := below_drewN (Below.refl w1.heap.size w1) nq;have HS : Hid (RdW (w1.drewN nq) B q en L (xwb L x.p st)) := by show RdW _ _ _ _ _ _; rw [hP.out]; exact H1.out.below bq
   have KB := hid (K1.out.trans (Kn.below (B := B) (q := q) bq));have RB := hid (R1.out.below bq);have HXb := hid (HX.out.below bq);generalize w1.drewN nq = wB at *;clear k9 k4 bq H1 K1 R1 HX hP;obtain ⟨A, n, c, C2, m2, d2, ts, h1, h2, h3, h4, h5, h6, h7, h8⟩ := id HS.out;obtain ⟨rfl, rfl, rfl⟩ := rdC_nodes h1 RB.out;have hmd : (xwb L x.p st).mad = st.mad := nodP_mad L x.p st;rw [hmd] at h1;generalize hE9 : (xwb L x.p st).E = E9 at h1 h5;generalize hP9 : (xwb L x.p st).P = P9 at h1;generalize ho9 : (xwb L x.p st).op = op9 at h1;have hm6 : Hid (m ≤ 1000000) := by show _ ≤ _; rw [h3.1, h4, (nodP_ts L x.p st)]; exact HFt.out.1
   have hk6 : (st.mad : Int) ≤ 1000000 := by have := HFt.out.2; omega
   have hoq := hid (h3.2.differ h1 yzy);have k9 := h1.cell (k := 9) (v := .int .i64 (st.mad : Int)) rfl;have f9 := h1.free 9;have HR := hid (h1.set 9 (.int .i64 ((st.mad : Int) + 1)));have hg9 := xqs wB q 9 (.int .i64 ((st.mad : Int) + 1));have HK := hid (KB.out.trans (Kn.of hg9));have HOt := hid (h3.q h1 hg9);have HO := hid HOt.out.2;have HX2 := hid (HXb.out.far (show q ≠ qx by have := Hqx.out; have := Hlt.out; omega) 9 (.int .i64 ((st.mad : Int) + 1)));have hBS : Hid (B ≤ (wB.setCell ⟨q, 9, none⟩ (.int .i64 ((st.mad : Int) + 1))).heap.size) := by show _ ≤ _; rw [World.size_setCell]; have := KB.out.size; have := HBw.out; omega
   have HTok := hid (h2.kn (Kn.of (B := B) hg9) h1);have HTb := hid (h7.kn (Kn.of hg9) h6);have H45 := hid (And.intro h4 h5);have H68 := hid (And.intro h6 h8);have HEP : Hid ((xwb L x.p st).E = E9 ∧ (xwb L x.p st).P = P9 ∧ (xwb L x.p st).op = op9) := ⟨hE9, hP9, ho9⟩;have Hmd := hid hmd;have h0q : (0 : Int) ≤ (st.mad : Int) := by omega
   clear h1 h2 h3 h4 h5 h6 h7 h8 hg9 HS KB HXb RB hE9 hP9 ho9 hmd;go_wp2_with fail
   generalize wB.setCell ⟨q, 9, none⟩ (.int .i64 ((st.mad : Int) + 1)) = wS at *;clear k9 f9 h0q hk6
   refine ywi 10 1 [some 25, some 26, some 27, some 28, some 29, some 30, some 31, some 32, some 33, some 34] ?aFq0 (NoR 7 C m d) (NoS wS B q qx (rdC A n c en L E9 P9 C m d ((st.mad : Int) + 1) (op9 : Int)) (ndV x) C m d (xql ts)) (fun k vv wx => match k with
    | 0 => vv = .pointer (some ⟨q, 0, none⟩)
    | 1 => vv = .pointer (some ⟨q, 0, none⟩)
    | 2 => vv = .pointer (some ⟨q, 0, none⟩)
    | 3 => vv = .pointer (some ⟨q, 8, none⟩)
    | 4 => vv = .slice C m d
    | 5 => vv = .agg (ndV x)
    | 6 => ∃ g, vv = .slice (some ⟨g, 0, none⟩) 1 1 ∧ RowA wx g 51 (ndV x) ∧ wS.heap.size ≤ g
    | 7 => ∃ A2 c2, vv = .slice A2 (m + 1) c2 ∧ OwnR wx B 51 7 A2 (m + 1) c2 (xql ts ++ (ndV x).toList)
    | 8 => vv = .pointer (some ⟨q, 0, none⟩)
    | _ => vv = .pointer (some ⟨q, 8, none⟩))
    (by kernel_rfl) ?haFq0 rfl (by kernel_rfl) (by kernel_rfl) (fun _ _ _ _ _ h => h) ?hSbq0 ?hPbq0 ?hSq0 ?hopq0 ?hfinq0
   case haFq0 =>
    intro vals;simp only [xqx, dAt, Act.put, List.setIfInBounds_toArray, List.set_cons_zero, List.set_cons_succ];exact rfl
   case hSbq0 => exact fun i l wx wy hi hl hR h => NoS.step hoq.out hox.out hl hR h
   case hPbq0 =>
    intro k j v wa wb hk hkj hb h
    match j, h with
    | 0, h => exact h
    | 1, h => exact h
    | 2, h => exact h
    | 3, h => exact h
    | 4, h => exact h
    | 5, h => exact h
    | 6, ⟨g, e1, g1, g2⟩ => exact ⟨g, e1, hb.row g1 (fun e => by have := (HO.out.lt g e).2; omega), g2⟩
    | 7, ⟨A2, c2, e1, g1⟩ =>
     unfold NoR at hb;rw [if_neg (by omega)] at hb;exact ⟨A2, c2, e1, g1.below hb⟩
    | 8, h => exact h
    | _ + 9, h => exact h
   case hSq0 => exact ⟨HR.out, HX2.out, Nat.le_refl _, Kn.below (Below.refl _ _).drew, fun _ => HO.out⟩
   case hopq0 =>
    refine .cons (k := 0) ?_ (.cons (k := 1) ?_ (.cons (k := 2) ?_ (.cons (k := 3) ?_ (.cons (k := 4) ?_ (.cons (k := 5) ?_ (.cons (k := 6) ?_ (.cons (k := 7) ?_ (.cons (k := 8) ?_ (.cons (k := 9) ?_ (.nil))))))))))
    all_goals intro vals wr l hl hS hd KC hKx
    all_goals (show Oper.wp _ _ _ _ _ _; dsimp only)
    · go_simp;refine hKx _ _ rfl (NoR.of (Below.refl _ _) (by decide)) (by first | rfl | simp)
    · go_simp;refine hKx _ _ rfl (NoR.of (Below.refl _ _) (by decide)) (by first | rfl | simp)
    · have d1 : vals 1 = _ := hd 1 (by decide +kernel);rw [d1];go_simp;refine hKx _ _ rfl (NoR.of (Below.refl _ _) (by decide)) (by first | rfl | simp)
    · have d2 : vals 2 = _ := hd 2 (by decide +kernel);rw [d2];go_simp;refine hKx _ _ rfl (NoR.of (Below.refl _ _) (by decide)) (by first | rfl | simp)
    · have d3 : vals 3 = _ := hd 3 (by decide +kernel);rw [d3];have z0 := hS.1.cell (k := 8) rfl;go_simp;refine hKx _ _ rfl (NoR.of (Below.refl _ _) (by decide)) (by first | rfl | simp)
    · refine xq1 51 _ rfl qx 0 rfl (ndV x) (hid hS.2.1.inV) (hid (manyN x)) ?_;refine hKx _ _ rfl (NoR.of (Below.refl _ _) (by decide)) (by first | rfl | simp)
    · have d5 : vals 5 = _ := hd 5 (by decide +kernel);rw [d5];refine yjy _ _ _ rfl _ (by rfl) _ _ (hid (slice_node x wr)) ?_;refine hKx _ _ rfl (NoR.of (xqc _ _) (by decide)) ⟨_, rfl, xqd wr _ _, hS.2.2.1⟩
    · have d4 : vals 4 = _ := hd 4 (by decide +kernel);obtain ⟨g, d6, g1, g2⟩ := hd 6 (by decide +kernel);rw [d4, d6];have HOx := hid (hS.2.2.2.2 hl);have HYx : Hid (RowA wr g 51 (ndV x) ∧ (ndV x).size = 7 ∧ ∀ v ∈ ndV x, v.oneCell' = true) := ⟨g1, rfl, zqw x⟩;have HEx : Hid (m ≤ 1000000 ∧ B ≤ wr.heap.size) := ⟨hm6.out, Nat.le_trans hBS.out hS.2.2.1⟩;refine yqo _ _ 33 rfl B 51 7 yw5 C m d (xql ts) rfl HOx g rfl 51 (ndV x) HYx HEx ?_;intro A2 c2 w2 hO2 hg2;refine hKx _ _ rfl (by unfold NoR; rw [if_pos rfl]; exact hg2.out) ⟨A2, c2, rfl, hO2.out⟩
    · have d0 : vals 0 = _ := hd 0 (by decide +kernel);rw [d0];go_simp;refine hKx _ _ rfl (NoR.of (Below.refl _ _) (by decide)) (by first | rfl | simp)
    · have d8 : vals 8 = _ := hd 8 (by decide +kernel);rw [d8];go_simp;refine hKx _ _ rfl (NoR.of (Below.refl _ _) (by decide)) (by first | rfl | simp)
   case hfinq0 =>
    intro vals wr l hl hS hP;obtain ⟨A2, c2, ez_7, hO7⟩ := hP 7 (by decide);have ez_9 : vals 9 = _ := hP 9 (by decide);have c0x := hS.1.cell (k := 8) rfl;have f0x := hS.1.free 8;have hR2 := hid (hS.1.set 8 (.slice A2 (m + 1) c2));have hK2 := hid (hS.2.2.2.1.trans (Kn.of (xqs wr q 8 (.slice A2 (m + 1) c2))));have hO2 := hid (hO7.over (xqs wr q 8 (.slice A2 (m + 1) c2)) (fun g e => by cases e; exact hO7.differ hS.1 yzy));clear hS hP hO7 hl
    try dsimp only
    rw [ez_7, ez_9];clear ez_7 ez_9;refine wpAny_ready (rs := [10]) (by kernel_rfl) (by simp) (AllReady.cons rfl (fun KC hKC => ?_) AllReady.nil);go_simp;refine hKC _ _ ?_;clear hKC KC c0x f0x;refine wpAny_done (by kernel_rfl) ?_ _;generalize wr.setCell ⟨q, 8, none⟩ (.slice A2 (m + 1) c2) = wN at *;have hEst : (addS x2 (xwb L x.p st)).E = 0 → st.E = 0 := fun e => nodP_E e
    have hst : zqt L x2 st = addS x2 (xwb L x.p st) := by unfold zqt; rw [hxp]
    have hK3 := HK.out.trans hK2.out;have hfin : RdW wN B q en L (zqt L x2 st) := by
     rw [hst];refine ⟨A, n, c, A2, m + 1, c2, ts ++ [x], ?_, ?_, ⟨?_, ?_⟩, ?_, ?_, H68.out.1, ?_, H68.out.2⟩
     · have h9 := hR2.out;show RowA _ _ _ (rdC A n c en L (xwb L x.p st).E (xwb L x.p st).P A2 (m + 1) c2 (((xwb L x.p st).mad + 1 : Nat) : Int) (((xwb L x.p st).op : Nat) : Int));rw [HEP.out.1, HEP.out.2.1, HEP.out.2.2, Hmd.out];exact h9
     · exact HTok.out.kn hK2.out HR.out
     · rw [List.length_append, ← HOt.out.1]; rfl
     · rw [ywk]; exact hO2.out
     · show _ = ((xwb L x.p st).ts ++ [x2]).length;rw [List.length_append, List.length_append, H45.out.1]; rfl
     · intro e;have e2 : E9 = 0 := HEP.out.1.symm.trans e;show _ = (xwb L x.p st).ts ++ [x2];rw [H45.out.2 e2, HE0.out (hEst e)]
     · exact HTb.out.kn hK2.out H68.out.1
    go_wp2
    go_end0
    exact ⟨rfl, hfin, hK3⟩
end
section
variable {w : World} {B q en : Nat} {L : Lim} {st : St}
set_option maxRecDepth 100000 in
theorem pLast_c (h : RdW w B q en L st) :
 Calls Tryz.prog 143 #[.pointer (some ⟨q, 0, none⟩)] w fun x w' => x = .returned (.int .i64 (xjc st)) ∧ w' = w := by
 obtain ⟨A, n, c, C, m, d, ts, h1, h2, h3, h4, _⟩ := h;have c8 := h1.cell (k := 8) (v := .slice C m d) rfl;have hv : xjc st = (m : Int) - 1 := by unfold xjc; rw [← h4, ← h3.1]
 have hm : (m : Int) ≤ 9223372036854775807 := by have := h3.2.caps; unfold maxLen at this; omega
 rw [hv];clear h1 h2 h3 h4 hv;go_enter Tryz.func143, Tryz.ntmps143;go_wp2
 go_ret
 exact ⟨rfl, rfl⟩
set_option maxRecDepth 100000 in
theorem pJoinKind_c (t : List Nat) (ht : Bytes t) (w : World) :
 Calls Tryz.prog 145 #[.string (strOf t)] w fun x w' => x = .returned (.int .i64 (joiN t)) ∧ w' = w := by
 have e0 := yzb ht (b := [43]) (fun x hx => by rw [List.mem_singleton.1 hx]; decide);rw [xv0 [43], show ([43] : List Nat).map UInt8.ofNat = [43] from rfl] at e0;by_cases g0 : t = [43]
 · rw [decide_eq_true g0] at e0;have hv : Hid (joiN t = 3) := by show _ = _; rw [g0]; rfl
   clear g0;generalize strOf t = T at *;go_enter Tryz.func145, Tryz.ntmps145;go_wp2
   go_ret
   exact ⟨by rw [hv.out]; rfl, rfl⟩
 · rw [decide_eq_false g0] at e0;have e1 := yzb ht (b := [45]) (fun x hx => by rw [List.mem_singleton.1 hx]; decide);rw [xv0 [45], show ([45] : List Nat).map UInt8.ofNat = [45] from rfl] at e1;by_cases g1 : t = [45]
   · rw [decide_eq_true g1] at e1;have hv : Hid (joiN t = 4) := by show _ = _; rw [g1]; rfl
     clear g0 g1;generalize strOf t = T at *;go_enter Tryz.func145, Tryz.ntmps145;go_wp2
     go_ret
     exact ⟨by rw [hv.out]; rfl, rfl⟩
   · rw [decide_eq_false g1] at e1;have e2 := yzb ht (b := [42]) (fun x hx => by rw [List.mem_singleton.1 hx]; decide);rw [xv0 [42], show ([42] : List Nat).map UInt8.ofNat = [42] from rfl] at e2;by_cases g2 : t = [42]
     · rw [decide_eq_true g2] at e2;have hv : Hid (joiN t = 5) := by show _ = _; rw [g2]; rfl
       clear g0 g1 g2;generalize strOf t = T at *;go_enter Tryz.func145, Tryz.ntmps145;go_wp2
       go_ret
       exact ⟨by rw [hv.out]; rfl, rfl⟩
     · rw [decide_eq_false g2] at e2;have hv : Hid (joiN t = 6) := by show _ = _; unfold joiN; rw [if_neg g0, if_neg g1, if_neg g2]
       clear g0 g1 g2;generalize strOf t = T at *;go_enter Tryz.func145, Tryz.ntmps145;go_wp2
       go_ret
       exact ⟨by rw [hv.out]; rfl, rfl⟩
theorem RdW.depth (h : RdW w B q en L st) (o : Nat) : RdW (w.setCell ⟨q, 10, none⟩ (.int .i64 (o : Int))) B q en L { st with op := o } := by
 obtain ⟨A, n, c, C, m, d, ts, h1, h2, h3, h4, h5, h6, h7, h8⟩ := h;have hg := xqs w q 10 (.int .i64 (o : Int));exact ⟨A, n, c, C, m, d, ts, h1.set 10 _, h2.kn (Kn.of (B := B) hg) h1, h3.q h1 hg, h4, h5, h6, h7.kn (Kn.of hg) h6, h8⟩
theorem RdW.cell10 (h : RdW w B q en L st) : w.cell? ⟨q, 10, none⟩ = some (.int .i64 (st.op : Int)) ∧ w.frozen? ⟨q, 10, none⟩ = false := by
 obtain ⟨A, n, c, C, m, d, h1⟩ := h.size;exact ⟨h1.cell (k := 10) rfl, h1.free 10⟩
theorem opnP_op (L : Lim) (st : St) : (yqr L st).op = st.op := by
 unfold yqr xjp
 split
 · split <;> rfl
 · rfl
theorem RdW.fill (h : RdW w B q en L st) {g : Nat} {U : Array Value} (hr : RowA w g 109 U) (hne : g ≠ q) (hgB : B ≤ g) (V' : Array Value) : RdW (w.setRow g V') B q en L st := by
 obtain ⟨A, n, c, C, m, d, ts, h1, h2, h3, h4, h5, h6, h7, h8⟩ := h;have hg : w.grownBy (w.setRow g V') (some g) := ⟨rfl, rfl, rfl, by rw [setRow_size]; exact Nat.le_refl _, fun k hk hr => setRow_other w g k V' (fun e => hr (by rw [e]))⟩;have ho := h3.2.differ hr (by decide);refine ⟨A, n, c, C, m, d, ts, h1.grown hg (fun e => hne (by injection e)), ⟨h2.1, h2.2.1, h2.2.2.1, fun h0 => ?_⟩, ⟨h3.1, h3.2.over hg (fun k e => by cases e; exact ho)⟩, h4, h5, h6, ?_, h8⟩
 · obtain ⟨g2, o, V, e, hb, hr2, hc⟩ := h2.2.2.2 h0;have hr3 := hr2.grown hg (fun e => by injection e with e; omega);exact ⟨g2, o, V, e, hb, hr3, fun i t hi => zq7 (hc i t hi) hr2 hr3⟩
 · refine ⟨h7.1.same fun b i v hb hc => ?_, h7.2⟩;have e := hg.block b (xzb hc) (fun e => by injection e with e; have := h7.2; omega);rw [← hc];simp [World.cell?, e]
set_option maxRecDepth 100000 in
theorem pOpen_c (h : RdW w B q en L st) (hop : st.op ≤ 1000) (hB : B ≤ w.heap.size) :
 Calls Tryz.prog 160 #[.pointer (some ⟨q, 0, none⟩)] w fun x w' => x = .returned (.agg (tkV (opnX L st))) ∧ RdW w' B q en L (xz1 L st) ∧ w.grownBy w' (some q) := by
 have hlt := h.lt;have bn := xqc w (.cells (tkC 0 ⟨#[]⟩ 0) 109);have HX := xqd w 109 (tkC 0 ⟨#[]⟩ 0);have H1 := hid (h.below bn);have G1 := hid (xjb bn (some q));obtain ⟨g1, hg1⟩ : ∃ g, g = w.heap.size := ⟨_, rfl⟩;rw [← hg1] at HX;have Hg1 := hid hg1;have Hne : Hid (some q ≠ some g1) := fun e => by injection e with e; omega
 have HX := hid HX;have Hop := hid hop;have HBw := hid hB;clear h bn hlt hop hB;go_enter Tryz.func160, Tryz.ntmps160;go_wp2_with fail
 rw [← hg1];clear hg1;generalize w.alloc (.cells (tkC 0 ⟨#[]⟩ 0) 109) = w1 at *;obtain ⟨A, n, c, C, m, d, hr0⟩ := H1.out.size;have k10 := hr0.cell (k := 10) (v := .int .i64 (st.op : Int)) rfl;have k3 := hr0.cell (k := 3) (v := .int .i64 (L.deep : Int)) rfl;clear hr0;by_cases hmk : st.op = L.deep
 · have e1 : ((st.op : Int) == (L.deep : Int)) = true := by rw [hmk]; simp
   have hP : Hid (yqr L st = xjp 2 (pkS st).2.2 st) := by show _ = _; unfold yqr; rw [if_pos hmk]
   clear hmk
   go_quiet (fail)
   have bq := below_drewN (Below.refl w1.heap.size w1) nq;have H2 := hid (H1.out.below bq);have G2 := hid (gr_trans G1.out (xjb bq (some q)));have X2 := hid (HX.out.below bq);generalize w1.drewN nq = w2 at *;clear k10 k3 bq H1 G1 HX;obtain ⟨⟨k, t, a⟩, hp⟩ : ∃ t, t = pkS (st) := ⟨_, rfl⟩;replace hp := hid hp.symm;have hfld := fun W => (xwt (k : Int) (strOf t) (a : Int) W).2.2
   go_wp2_with fail
   refine (xjy H2.out hp.out).mono ?_;rintro e w3 ⟨rfl, bn⟩;have H3 := hid (H2.out.below bn);have G3 := hid (gr_trans G2.out (xjb bn (some q)));have X3 := hid (X2.out.below bn);clear bn H2 G2 X2;go_wp2_with fail
   refine (pFail_c H3.out 2 (a : Int) (by decide)).mono ?_;rintro e wB ⟨rfl, hS, hg⟩;have HS : Hid (RdW wB B q en L (yqr L st)) := by show RdW _ _ _ _ _ _; rw [hP.out, hp.out]; exact hS
   have GB := hid (gr_trans G3.out hg);have XB := hid (X3.out.grown hg Hne.out);clear hS hg H3 G3 X3 hfld;have hop : (yqr L st).op = st.op := opnP_op L st;obtain ⟨k10, f10⟩ := HS.out.cell10;rw [hop] at k10;have hop6 : (st.op : Int) ≤ 1000000 := by have := Hop.out; omega
   have hop0 : (0 : Int) ≤ (st.op : Int) := by omega
   have HD : Hid (RdW (wB.setCell ⟨q, 10, none⟩ (.int .i64 ((st.op : Int) + 1))) B q en L (ywn (yqr L st))) := by
    have h := HS.out.depth (st.op + 1);have e : ywn (yqr L st) = { yqr L st with op := st.op + 1 } := by unfold ywn; rw [hop]
    show RdW _ _ _ _ _ _;rw [e];exact h
   have GD := hid (gr_trans GB.out (xqs wB q 10 (.int .i64 ((st.op : Int) + 1))));have XD := hid (XB.out.grown (xqs wB q 10 (.int .i64 ((st.op : Int) + 1))) Hne.out);clear HS GB XB hop;go_wp2_with fail
   generalize wB.setCell ⟨q, 10, none⟩ (.int .i64 ((st.op : Int) + 1)) = wD at *;clear k10 f10 hop6 hop0;refine (xwa HD.out).mono ?_;rintro e wE ⟨rfl, hE, hg⟩;have HE := hid hE;have GE := hid (gr_trans GD.out hg);have XE := hid (XD.out.grown hg Hne.out);have HU : Hid (xq7 Tryz.prog 109 (tkV (pkS (ywn (yqr L st)))).size ∧ (tkC 0 ⟨#[]⟩ 0).size = (tkV (pkS (ywn (yqr L st)))).size ∧ ∀ v ∈ tkV (pkS (ywn (yqr L st))), v.oneCell' = true) := yvg _ _ _;have HRf := hid (RowA.fill XE.out (V' := tkV (pkS (ywn (yqr L st)))));have HF : Hid (RdW (wE.setRow g1 (tkV (pkS (ywn (yqr L st))))) B q en L (xz1 L st)) := by
    exact RdW.fill HE.out XE.out (fun e => Hne.out (congrArg some e.symm)) (by rw [Hg1.out]; exact HBw.out) (tkV (pkS (ywn (yqr L st))))
   have HG := hid (yqu GE.out (Nat.le_of_eq Hg1.out.symm) (tkV (pkS (ywn (yqr L st)))));clear hE hg HD GD XD HE GE;go_wp2_with (refine xqi (by rfl) _ _ _ (by rfl) _ (by rfl) _ (by rfl) _ _ (by assumption) (by assumption) ?_);refine bodyPost_ret (results_cell_row rfl _ _ _ 109 (tkV (pkS (ywn (yqr L st)))) (0, 0) _ rfl HRf.out Tryz.underlying109 rfl ywg) rfl ?_;exact ⟨rfl, HF.out, HG.out⟩
 · have e1 : ((st.op : Int) == (L.deep : Int)) = false := by rw [beq_eq_false_iff_ne]; omega
   have hP : Hid (yqr L st = st) := by show _ = _; unfold yqr; rw [if_neg hmk]
   clear hmk
   go_quiet (fail)
   have bq := below_drewN (Below.refl w1.heap.size w1) nq;have H2 := hid (H1.out.below bq);have G2 := hid (gr_trans G1.out (xjb bq (some q)));have X2 := hid (HX.out.below bq);generalize w1.drewN nq = w2 at *;clear k10 k3 bq H1 G1 HX;have HS : Hid (RdW w2 B q en L (yqr L st)) := by show RdW _ _ _ _ _ _; rw [hP.out]; exact H2.out
   have GB := hid G2.out;have XB := hid X2.out;clear H2 G2 X2;generalize w2 = wB at *;have hop : (yqr L st).op = st.op := opnP_op L st;obtain ⟨k10, f10⟩ := HS.out.cell10;rw [hop] at k10;have hop6 : (st.op : Int) ≤ 1000000 := by have := Hop.out; omega
   have hop0 : (0 : Int) ≤ (st.op : Int) := by omega
   have HD : Hid (RdW (wB.setCell ⟨q, 10, none⟩ (.int .i64 ((st.op : Int) + 1))) B q en L (ywn (yqr L st))) := by
    have h := HS.out.depth (st.op + 1);have e : ywn (yqr L st) = { yqr L st with op := st.op + 1 } := by unfold ywn; rw [hop]
    show RdW _ _ _ _ _ _;rw [e];exact h
   have GD := hid (gr_trans GB.out (xqs wB q 10 (.int .i64 ((st.op : Int) + 1))));have XD := hid (XB.out.grown (xqs wB q 10 (.int .i64 ((st.op : Int) + 1))) Hne.out);clear HS GB XB hop;go_wp2_with fail
   generalize wB.setCell ⟨q, 10, none⟩ (.int .i64 ((st.op : Int) + 1)) = wD at *;clear k10 f10 hop6 hop0;refine (xwa HD.out).mono ?_;rintro e wE ⟨rfl, hE, hg⟩;have HE := hid hE;have GE := hid (gr_trans GD.out hg);have XE := hid (XD.out.grown hg Hne.out);have HU : Hid (xq7 Tryz.prog 109 (tkV (pkS (ywn (yqr L st)))).size ∧ (tkC 0 ⟨#[]⟩ 0).size = (tkV (pkS (ywn (yqr L st)))).size ∧ ∀ v ∈ tkV (pkS (ywn (yqr L st))), v.oneCell' = true) := yvg _ _ _;have HRf := hid (RowA.fill XE.out (V' := tkV (pkS (ywn (yqr L st)))));have HF : Hid (RdW (wE.setRow g1 (tkV (pkS (ywn (yqr L st))))) B q en L (xz1 L st)) := by
    exact RdW.fill HE.out XE.out (fun e => Hne.out (congrArg some e.symm)) (by rw [Hg1.out]; exact HBw.out) (tkV (pkS (ywn (yqr L st))))
   have HG := hid (yqu GE.out (Nat.le_of_eq Hg1.out.symm) (tkV (pkS (ywn (yqr L st)))));clear hE hg HD GD XD HE GE;go_wp2_with (refine xqi (by rfl) _ _ _ (by rfl) _ (by rfl) _ (by rfl) _ _ (by assumption) (by assumption) ?_);refine bodyPost_ret (results_cell_row rfl _ _ _ 109 (tkV (pkS (ywn (yqr L st)))) (0, 0) _ rfl HRf.out Tryz.underlying109 rfl ywg) rfl ?_;exact ⟨rfl, HF.out, HG.out⟩
end
abbrev limC (a b n p : Int) : Array Value := #[.int .i64 a, .int .i64 b, .int .i64 n, .int .i64 p]
theorem sizeLim : (Tryz.prog.info? 23).map (·.size) = some 4 := by kernel_rfl
theorem manyLim (a b n p : Int) : xq7 Tryz.prog 23 (limC a b n p).size := ⟨sizeLim, _, Tryz.underlying23, rfl⟩
theorem fitsLim (a b n p : Int) : xq7 Tryz.prog 23 (limC a b n p).size ∧ (limC 0 0 0 0).size = (limC a b n p).size ∧ ∀ v ∈ limC a b n p, v.oneCell' = true := ⟨manyLim a b n p, rfl, by simp [Value.oneCell']⟩
set_option maxRecDepth 100000 in
theorem pMost_c (w : World) :
 Calls Tryz.prog 22 #[] w fun e w' => e = .returned (.agg (limC 4000 60 2000 64)) ∧ Below w.heap.size w w' := by
 have HU := hid (fitsLim 4000 60 2000 64);have hz := xqd w 23 (limC 0 0 0 0);have HRf := hid (xqd w 23 (limC 4000 60 2000 64));have HE := hid (xqc w (.cells (limC 4000 60 2000 64) 23));go_enter Tryz.func22, Tryz.ntmps22;go_wp2
 refine bodyPost_ret (results_cell_row rfl _ _ _ 23 (limC 4000 60 2000 64) (0, 0) _ rfl HRf.out Tryz.underlying23 rfl sizeLim) rfl ?_;exact ⟨rfl, HE.out⟩
theorem cutL_most : xjd 4000 60 2000 64 = mostL := rfl
def ndX (ts : List Nd) (i : Nat) : List Nat := ((prF [] ts).getD i ([], 0)).1
def xwc (ts : List Nd) (i : Nat) : Int := (ts.getD i ⟨0, 0, 0, 0, ⟨#[]⟩, ⟨#[]⟩, 0⟩).k
theorem txtT_nd (ts : List Nd) : xzz ts = ndX ts (ts.length - 1) := rfl
theorem prF_ext (ts : List Nd) : ∀ P : PrT, ∃ Q, prF P ts = P ++ Q := by
 induction ts with
 | nil => intro P; exact ⟨[], by rw [List.append_nil]; rfl⟩
 | cons x r ih =>
  intro P;obtain ⟨Q, h⟩ := ih (P ++ [prS P x]);exact ⟨prS P x :: Q, by show prF (P ++ [prS P x]) r = _; rw [h]; simp⟩
theorem prF_take (ts : List Nd) (i : Nat) : ∃ Q, prF [] ts = prF [] (ts.take i) ++ Q := by
 conv => rhs; intro Q; lhs; rw [← List.take_append_drop i ts]
 rw [yvy];exact prF_ext _ _
theorem prF_tl (ts : List Nd) {i : Nat} (h : i ≤ ts.length) : (prF [] (ts.take i)).length = i := by
 rw [prF_len, List.length_take]; simp; omega
theorem ndX_take {ts : List Nd} {i j : Nat} (hj : j < i) (hi : i ≤ ts.length) : (prF [] (ts.take i)).getD j ([], 0) = (prF [] ts).getD j ([], 0) := by
 obtain ⟨Q, h⟩ := prF_take ts i;rw [h, List.getD_eq_getElem?_getD, List.getD_eq_getElem?_getD, List.getElem?_append_left (by rw [prF_tl ts hi]; exact hj)]
theorem prF_at {ts : List Nd} {i : Nat} {x : Nd} (hx : ts[i]? = some x) : (prF [] ts).getD i ([], 0) = prS (prF [] (ts.take i)) x := by
 have hi := (List.getElem?_eq_some_iff.1 hx).1;rw [← ndX_take (Nat.lt_succ_self i) (by omega), prF_next hx, List.getD_eq_getElem?_getD, List.getElem?_append_right (by rw [prF_tl ts (by omega)]; exact Nat.le_refl _), prF_tl ts (by omega), Nat.sub_self]; rfl
theorem ndX_kind {ts : List Nd} {i : Nat} (hi : i < ts.length) : ((prF [] ts).getD i ([], 0)).2 = xwc ts i := by
 have hx : ts[i]? = some ts[i] := List.getElem?_eq_getElem hi;rw [prF_at hx];unfold xwc;rw [List.getD_eq_getElem?_getD, hx]; rfl
theorem kndI_at {ts : List Nd} {i : Nat} {x : Nd} (hx : ts[i]? = some x) : xwc ts i = x.k := by
 unfold xwc;rw [List.getD_eq_getElem?_getD, hx]; rfl
theorem prAt_nd {ts : List Nd} {i a : Nat} {c : Int} (hc : c = (a : Int)) (ha : a < i) (hi : i ≤ ts.length) : prAt (prF [] (ts.take i)) c = (ndX ts a, xwc ts a) := by
 unfold prAt;rw [hc, Int.toNat_natCast, ndX_take ha hi];exact Prod.ext rfl (ndX_kind (by omega))
theorem ndX_lit {ts : List Nd} {i : Nat} {x : Nd} (hx : ts[i]? = some x) (hk : x.k = 1) : ndX ts i = bytesOf x.t ++ unX x.u := by
 unfold ndX;rw [prF_at hx];unfold prS prX;rw [if_pos hk]
theorem ndX_ref {ts : List Nd} {i : Nat} {x : Nd} (hx : ts[i]? = some x) (hk : x.k = 2) : ndX ts i = bytesOf x.t := by
 unfold ndX;rw [prF_at hx];unfold prS prX;rw [if_neg (by omega), if_pos hk]
theorem ndX_two {ts : List Nd} {i a b : Nat} {x : Nd} (hx : ts[i]? = some x) (hk : xq8 x.k = true) (ha : x.a = (a : Int)) (hai : a < i) (hb : x.b = (b : Int)) (hbi : b < i) :
 ndX ts i = xj7 (!xje x.k && xje (xwc ts a)) (ndX ts a) ++ (sgX x.k ++ xj7 (if xje x.k = true then xje (xwc ts b) else xq8 (xwc ts b)) (ndX ts b)) := by
 have hi := (List.getElem?_eq_some_iff.1 hx).1;have h36 := twoK_iff.1 hk;unfold ndX;rw [prF_at hx];unfold prS prX;rw [if_neg (by omega), if_neg (by omega), if_pos hk, prAt_nd ha hai (by omega), prAt_nd hb hbi (by omega)]; rfl
theorem ndX_neg {ts : List Nd} {i a : Nat} {x : Nd} (hx : ts[i]? = some x) (hk : x.k = 7) (ha : x.a = (a : Int)) (hai : a < i) : ndX ts i = 45 :: xj7 (xq8 (xwc ts a)) (ndX ts a) := by
 have hi := (List.getElem?_eq_some_iff.1 hx).1;unfold ndX;rw [prF_at hx];unfold prS prX;rw [if_neg (by omega), if_neg (by omega), if_neg (by rw [hk]; decide), if_pos hk, prAt_nd ha hai (by omega)]; rfl
theorem ndX_pow {ts : List Nd} {i a : Nat} {x : Nd} (hx : ts[i]? = some x) (hk : x.k = 8) (ha : x.a = (a : Int)) (hai : a < i) : ndX ts i = xj7 (!(decide (xwc ts a = 1) || decide (xwc ts a = 2))) (ndX ts a) ++ 94 :: zT x.n := by
 have hi := (List.getElem?_eq_some_iff.1 hx).1;unfold ndX;rw [prF_at hx];unfold prS prX;rw [if_neg (by omega), if_neg (by omega), if_neg (by rw [hk]; decide), if_neg (by omega), prAt_nd ha hai (by omega)]; rfl
theorem xzg {ts : List Nd} (h : xq5 ts = true) {i : Nat} {x : Nd} (hx : ts[i]? = some x) : xjw x = true ∧ (oneK x.k = true → ∃ a : Nat, x.a = (a : Int) ∧ a < i) ∧ (xq8 x.k = true → ∃ a b : Nat, x.a = (a : Int) ∧ x.b = (b : Int) ∧ a < i ∧ b < i) := by
 obtain ⟨_, _, o, hb, hol, hlow, _⟩ := xz4 h;have hi := (List.getElem?_eq_some_iff.1 hx).1;have h1 := zji hb i;have hlt : (o.take i).length = i := by rw [List.length_take]; omega
 cases hs : xz6 (o.take i) x with
 | none => rw [yvp hx h1 hs] at hb; cases hb
 | some s =>
  obtain ⟨hf, hc⟩ := xvs hs;refine ⟨hf, fun hk => ?_, fun hk => ?_⟩
  · cases hc with
    | leaf hk' hs => rcases hk' with h | h <;> (rw [h] at hk; exact absurd hk (by decide))
    | one hk j ha hl hs => exact ⟨j, ha, by omega⟩
    | two hk2 j i' hb hl ha hi' hs => have := twoK_iff.1 hk2; have := oneK_iff.1 hk; omega
  · cases hc with
    | leaf hk' hs => rcases hk' with h | h <;> (rw [h] at hk; exact absurd hk (by decide))
    | one hk1 j ha hl hs => have := twoK_iff.1 hk; have := oneK_iff.1 hk1; omega
    | two hk2 j i' hb2 hl ha hi' hs =>
     have hlow2 := zqd h1;have := hlow2.le j;exact ⟨i', j, ha, hb2, by omega, by omega⟩
theorem zq8 {x : Nd} (h : xjw x = true) : 1 ≤ x.k ∧ x.k ≤ 8 := by
 rcases yzp h with h | h | h | h
 · omega
 · omega
 · have := twoK_iff.1 h; omega
 · omega
theorem txtT_le {ts : List Nd} (h : xq5 ts = true) : (xzz ts).length ≤ (ts.map wtN).sum := by
 obtain ⟨f, f1, f2, f3⟩ := good_fm h;rw [txtT_fm f1 f2 f3];refine Nat.le_trans (zqi f f1) ?_;rw [← f2, List.map_map];exact Nat.le_of_eq rfl
theorem sum_leW (l : List Nat) (m : Nat) (h : ∀ x ∈ l, x ≤ m) : l.sum ≤ m * l.length := by
 induction l with
 | nil => exact Nat.zero_le _
 | cons x l ih =>
  have h1 := h x (by simp);have h2 := ih fun y hy => h y (by simp [hy])
  rw [List.sum_cons, List.length_cons, Nat.mul_add]; omega
theorem txtT_bytes (ts : List Nd) (h : xq5 ts = true) : Bytes (xzz ts) := by
 obtain ⟨f, f1, f2, f3⟩ := good_fm h;rw [txtT_fm f1 f2 f3];exact yq4 f
set_option maxRecDepth 100000 in
theorem wOwn1_c (nm ot nu va un : ByteArray) (A : Option Addr) (n c : Nat) (pl at1 : Int) (w : World) :
 Calls Tryz.prog 65 #[.agg (dcC 1 nm ot nu va un A n c pl at1)] w fun e w' => e = .returned (.agg (dcC 1 nm ⟨#[]⟩ nu ⟨#[]⟩ un none 0 0 0 0)) ∧ Below w.heap.size w w' := by
 have b1 := xqc w (.cells (dcC 1 nm ot nu va un A n c pl at1) 62);have b2 := xqc (w.alloc (.cells (dcC 1 nm ot nu va un A n c pl at1) 62)) (.cells zDc 62);have b3 := xqc ((w.alloc (.cells (dcC 1 nm ot nu va un A n c pl at1) 62)).alloc (.cells zDc 62)) (.cells (dcC 1 nm ⟨#[]⟩ ⟨#[]⟩ ⟨#[]⟩ ⟨#[]⟩ none 0 0 0 0) 62);have h_rx0 := (xqd w 62 (dcC 1 nm ot nu va un A n c pl at1)).below b2;have x0 := h_rx0.cell (k := 0) (v := .int .i64 1) rfl;have x1 := h_rx0.cell (k := 1) (v := .string nm) rfl;have h_rx := h_rx0.below b3;have h_rz := (xqd (w.alloc (.cells (dcC 1 nm ot nu va un A n c pl at1) 62)) 62 zDc).below b3;have h_ro := xqd ((w.alloc (.cells (dcC 1 nm ot nu va un A n c pl at1) 62)).alloc (.cells zDc 62)) 62 (dcC 1 nm ⟨#[]⟩ ⟨#[]⟩ ⟨#[]⟩ ⟨#[]⟩ none 0 0 0 0);simp only [World.size_alloc] at h_rz h_ro;have bw := xqa (xqa b1 b2) b3;clear b1 b2 b3 h_rx0;have HBd : Hid (∀ W, (Instr.build 62 ([(0, .int .i64 1), (1, .string nm)] : List (Nat × Value)).toArray).run Tryz.prog W = .ok (.agg (dcC 1 nm ⟨#[]⟩ ⟨#[]⟩ ⟨#[]⟩ ⟨#[]⟩ none 0 0 0 0)) W) := fun W => by kernel_rfl
 have HUb : Hid (xq7 Tryz.prog 62 (dcC 1 nm ⟨#[]⟩ ⟨#[]⟩ ⟨#[]⟩ ⟨#[]⟩ none 0 0 0 0).size ∧ zDc.size = (dcC 1 nm ⟨#[]⟩ ⟨#[]⟩ ⟨#[]⟩ ⟨#[]⟩ none 0 0 0 0).size ∧ ∀ v ∈ dcC 1 nm ⟨#[]⟩ ⟨#[]⟩ ⟨#[]⟩ ⟨#[]⟩ none 0 0 0 0, v.oneCell' = true) := ⟨xq3 _ _ _ _ _ _ _ _ _ _ _, rfl, by simp [Value.oneCell']⟩;go_enter Tryz.func65, Tryz.ntmps65
 go_upto_region 2 with (first | (refine xqn (by rfl) _ _ (by rfl) _ (by rfl) _ (by assumption) ?_) | (refine xqg (by rfl) _ _ _ (by rfl) _ _ _ (by rfl) (by rfl) (by assumption) ?_))
 clear x0 x1 HBd HUb;generalize ((w.alloc (.cells (dcC 1 nm ot nu va un A n c pl at1) 62)).alloc (.cells zDc 62)).alloc (.cells (dcC 1 nm ⟨#[]⟩ ⟨#[]⟩ ⟨#[]⟩ ⟨#[]⟩ none 0 0 0 0) 62) = w1 at *;obtain ⟨q_o, eo⟩ : ∃ g, g = w.heap.size + 1 + 1 := ⟨_, rfl⟩;obtain ⟨q_z, ez⟩ : ∃ g, g = w.heap.size + 1 := ⟨_, rfl⟩;obtain ⟨q_x, ex⟩ : ∃ g, g = w.heap.size := ⟨_, rfl⟩;rw [← eo] at h_ro ⊢;rw [← ez] at h_rz ⊢;rw [← ex] at h_rx ⊢;have hne : Hid (q_o ≠ q_x ∧ q_o ≠ q_z ∧ q_x ≠ q_z) := by refine ⟨?_, ?_, ?_⟩ <;> omega
 have hxx : Hid (w.heap.size ≤ q_x ∧ w.heap.size ≤ q_z ∧ w.heap.size ≤ q_o) := by refine ⟨?_, ?_, ?_⟩ <;> omega
 clear eo ez ex;have HX := hid h_rx;have HZ := hid h_rz;have HO := hid h_ro;have HB := hid bw;have k0 := h_rx.cell (k := 0) (v := .int .i64 1) rfl;clear h_rx h_rz h_ro bw;go_wp2_with fail
 refine xv1 8 [some 13, some 14, some 15, some 16, some 17, none, some 18, none] ?aF (fun wx wy => ((RowA wx q_x 62 (dcC 1 nm ot nu va un A n c pl at1) ∧ (∃ v3 : Value, ∃ v5 : Value, RowA wx q_o 62 #[.int .i64 1, .string nm, .string ⟨#[]⟩, v3, .string ⟨#[]⟩, v5, .slice none 0 0, .int .i64 0, .int .i64 0]) ∧ RowA wx q_z 62 zDc ∧ Below w.heap.size w wx) → (RowA wy q_x 62 (dcC 1 nm ot nu va un A n c pl at1) ∧ (∃ v3 : Value, ∃ v5 : Value, RowA wy q_o 62 #[.int .i64 1, .string nm, .string ⟨#[]⟩, v3, .string ⟨#[]⟩, v5, .slice none 0 0, .int .i64 0, .int .i64 0]) ∧ RowA wy q_z 62 zDc ∧ Below w.heap.size w wy)) ∧ (wx.cell? ⟨q_o, 3, none⟩ = some (.string nu) → wy.cell? ⟨q_o, 3, none⟩ = some (.string nu)) ∧ (wx.cell? ⟨q_o, 5, none⟩ = some (.string un) → wy.cell? ⟨q_o, 5, none⟩ = some (.string un))) (fun wx => RowA wx q_x 62 (dcC 1 nm ot nu va un A n c pl at1) ∧ (∃ v3 : Value, ∃ v5 : Value, RowA wx q_o 62 #[.int .i64 1, .string nm, .string ⟨#[]⟩, v3, .string ⟨#[]⟩, v5, .slice none 0 0, .int .i64 0, .int .i64 0]) ∧ RowA wx q_z 62 zDc ∧ Below w.heap.size w wx) (fun k vv wx => match k with
  | 0 => vv = .pointer (some ⟨q_x, 3, none⟩)
  | 1 => vv = .string nu
  | 2 => vv = .pointer (some ⟨q_x, 5, none⟩)
  | 3 => vv = .string un
  | 4 => vv = .pointer (some ⟨q_o, 3, none⟩)
  | 5 => wx.cell? ⟨q_o, 3, none⟩ = some (.string nu)
  | 6 => vv = .pointer (some ⟨q_o, 5, none⟩)
  | _ => wx.cell? ⟨q_o, 5, none⟩ = some (.string un))
  (by kernel_rfl) ?haF rfl (by kernel_rfl) (fun _ _ _ _ _ h => h) ?hSb ?hPb ?hS ?hop ?hfin
 case haF =>
  intro vals;simp only [xqx, dAt, Act.put, List.setIfInBounds_toArray, List.set_cons_zero, List.set_cons_succ];exact rfl
 case hSb => exact fun wx wy h k => h.1 k
 case hPb =>
  intro k v wa wb hb hS h
  match k, h with
  | 0, h => exact h
  | 1, h => exact h
  | 2, h => exact h
  | 3, h => exact h
  | 4, h => exact h
  | 5, h => exact hb.2.1 h
  | 6, h => exact h
  | _ + 7, h => exact hb.2.2 h
 case hS => exact ⟨HX.out, ⟨_, _, HO.out⟩, HZ.out, HB.out.drew⟩
 case hop =>
  refine .cons (k := 0) ?_ (.cons (k := 1) ?_ (.cons (k := 2) ?_ (.cons (k := 3) ?_ (.cons (k := 4) ?_ (.cons (k := 5) ?_ (.cons (k := 6) ?_ (.cons (k := 7) ?_ (.nil))))))))
  all_goals intro vals wr hS hd KC hK
  all_goals (show Oper.wp _ _ _ _ _ _; dsimp only)
  · go_simp;refine hK _ _ rfl ⟨fun h => h, fun h => h, fun h => h⟩ (by first | rfl | simp)
  · have d0 : vals 0 = _ := hd 0 (by decide +kernel);rw [d0];have c0 := hS.1.cell (k := 3) (v := .string nu) rfl;go_simp;refine hK _ _ rfl ⟨fun h => h, fun h => h, fun h => h⟩ (by first | rfl | simp)
  · go_simp;refine hK _ _ rfl ⟨fun h => h, fun h => h, fun h => h⟩ (by first | rfl | simp)
  · have d0 : vals 2 = _ := hd 2 (by decide +kernel);rw [d0];have c0 := hS.1.cell (k := 5) (v := .string un) rfl;go_simp;refine hK _ _ rfl ⟨fun h => h, fun h => h, fun h => h⟩ (by first | rfl | simp)
  · go_simp;refine hK _ _ rfl ⟨fun h => h, fun h => h, fun h => h⟩ (by first | rfl | simp)
  · have d1 : vals 1 = _ := hd 1 (by decide +kernel);have d2 : vals 4 = _ := hd 4 (by decide +kernel);rw [d1, d2];obtain ⟨hsx, ⟨v3, v5, hro⟩, hsz, hsb⟩ := id hS;have c0 := hro.cell (k := 3) (v := v3) rfl;have f0 := hro.free 3;go_simp
    refine hK _ _ rfl ⟨fun _ => ⟨hsx.far hne.out.1 _ _, ⟨_, _, (show RowA _ q_o 62 #[.int .i64 1, .string nm, .string ⟨#[]⟩, .string nu, .string ⟨#[]⟩, v5, .slice none 0 0, .int .i64 0, .int .i64 0] from hro.set 3 (.string nu))⟩, hsz.far hne.out.2.1 _ _, xqt hsb hxx.out.2.2 _ _⟩, fun _ => (RowA.cell (show RowA _ q_o 62 #[.int .i64 1, .string nm, .string ⟨#[]⟩, .string nu, .string ⟨#[]⟩, v5, .slice none 0 0, .int .i64 0, .int .i64 0] from hro.set 3 (.string nu)) (k := 3) rfl), fun h => by
     have h9 := hro.cell (k := 5) (v := v5) rfl;rw [h] at h9;injection h9 with h9
     subst h9
     exact (RowA.cell (show RowA _ q_o 62 #[.int .i64 1, .string nm, .string ⟨#[]⟩, .string nu, .string ⟨#[]⟩, .string un, .slice none 0 0, .int .i64 0, .int .i64 0] from hro.set 3 (.string nu)) (k := 5) rfl)⟩ ?_
    exact (RowA.cell (show RowA _ q_o 62 #[.int .i64 1, .string nm, .string ⟨#[]⟩, .string nu, .string ⟨#[]⟩, v5, .slice none 0 0, .int .i64 0, .int .i64 0] from hro.set 3 (.string nu)) (k := 3) rfl)
  · go_simp;refine hK _ _ rfl ⟨fun h => h, fun h => h, fun h => h⟩ (by first | rfl | simp)
  · have d1 : vals 3 = _ := hd 3 (by decide +kernel);have d2 : vals 6 = _ := hd 6 (by decide +kernel);rw [d1, d2];obtain ⟨hsx, ⟨v3, v5, hro⟩, hsz, hsb⟩ := id hS;have c0 := hro.cell (k := 5) (v := v5) rfl;have f0 := hro.free 5;go_simp
    refine hK _ _ rfl ⟨fun _ => ⟨hsx.far hne.out.1 _ _, ⟨_, _, (show RowA _ q_o 62 #[.int .i64 1, .string nm, .string ⟨#[]⟩, v3, .string ⟨#[]⟩, .string un, .slice none 0 0, .int .i64 0, .int .i64 0] from hro.set 5 (.string un))⟩, hsz.far hne.out.2.1 _ _, xqt hsb hxx.out.2.2 _ _⟩, fun h => by
     have h9 := hro.cell (k := 3) (v := v3) rfl;rw [h] at h9;injection h9 with h9
     subst h9
     exact (RowA.cell (show RowA _ q_o 62 #[.int .i64 1, .string nm, .string ⟨#[]⟩, .string nu, .string ⟨#[]⟩, .string un, .slice none 0 0, .int .i64 0, .int .i64 0] from hro.set 5 (.string un)) (k := 3) rfl), fun _ => (RowA.cell (show RowA _ q_o 62 #[.int .i64 1, .string nm, .string ⟨#[]⟩, v3, .string ⟨#[]⟩, .string un, .slice none 0 0, .int .i64 0, .int .i64 0] from hro.set 5 (.string un)) (k := 5) rfl)⟩ ?_
    exact (RowA.cell (show RowA _ q_o 62 #[.int .i64 1, .string nm, .string ⟨#[]⟩, v3, .string ⟨#[]⟩, .string un, .slice none 0 0, .int .i64 0, .int .i64 0] from hro.set 5 (.string un)) (k := 5) rfl)
 case hfin =>
  intro vals wr hS hP;obtain ⟨h_rx2, ⟨v3, v5, h_ro2⟩, h_rz2, hb2⟩ := hS;have p3 : wr.cell? ⟨q_o, 3, none⟩ = some (.string nu) := hP 5 (by decide);have r3 := h_ro2.cell (k := 3) (v := v3) rfl;rw [p3] at r3;injection r3 with r3
  subst r3;have p5 : wr.cell? ⟨q_o, 5, none⟩ = some (.string un) := hP 7 (by decide);have r5 := h_ro2.cell (k := 5) (v := v5) rfl;rw [p5] at r5;injection r5 with r5
  subst r5;clear HX HZ HO HB hP h_rx2 p3 p5;refine wpAny_done (by kernel_rfl) ?_ _
  try dsimp only [Act.put]
  generalize wr = w2 at *;have HIo : Hid (InV w2 q_o 0 (dcC 1 nm ⟨#[]⟩ nu ⟨#[]⟩ un none 0 0 0 0)) := h_ro2.inV;have HMo : Hid (xq7 Tryz.prog 62 (dcC 1 nm ⟨#[]⟩ nu ⟨#[]⟩ un none 0 0 0 0).size) := xq3 _ _ _ _ _ _ _ _ _ _ _;have HZw : Hid (RowA w2 q_z 62 zDc) := h_rz2;have HU : Hid (xq7 Tryz.prog 62 (dcC 1 nm ⟨#[]⟩ nu ⟨#[]⟩ un none 0 0 0 0).size ∧ zDc.size = (dcC 1 nm ⟨#[]⟩ nu ⟨#[]⟩ un none 0 0 0 0).size ∧ ∀ v ∈ dcC 1 nm ⟨#[]⟩ nu ⟨#[]⟩ un none 0 0 0 0, v.oneCell' = true) := ⟨xq3 _ _ _ _ _ _ _ _ _ _ _, rfl, by simp [Value.oneCell']⟩;have HR : Hid (RowA (w2.setRow q_z (dcC 1 nm ⟨#[]⟩ nu ⟨#[]⟩ un none 0 0 0 0)) q_z 62 (dcC 1 nm ⟨#[]⟩ nu ⟨#[]⟩ un none 0 0 0 0)) := HZw.out.fill;have HE : Hid (Below w.heap.size w (w2.setRow q_z (dcC 1 nm ⟨#[]⟩ nu ⟨#[]⟩ un none 0 0 0 0))) := xqv hb2 hxx.out.2.1 _;clear h_ro2 h_rz2 hb2;go_wp2_with (first | (refine xqf (by rfl) _ _ (by rfl) _ _ (by rfl) _ (by assumption) (by assumption) ?_) | (refine xqi (by rfl) _ _ _ (by rfl) _ (by rfl) _ (by rfl) _ _ HZw HU ?_));refine bodyPost_ret (results_cell_row rfl _ _ _ 62 (dcC 1 nm ⟨#[]⟩ nu ⟨#[]⟩ un none 0 0 0 0) (0, 0) _ rfl HR.out Tryz.underlying62 rfl yq7) rfl ?_;exact ⟨rfl, HE.out⟩
set_option maxRecDepth 100000 in
theorem wOwn2_c (nm ot nu va un : ByteArray) (A : Option Addr) (n c : Nat) (pl at1 : Int) (w : World) :
 Calls Tryz.prog 65 #[.agg (dcC 2 nm ot nu va un A n c pl at1)] w fun e w' => e = .returned (.agg (dcC 2 nm ⟨#[]⟩ nu va un none 0 0 0 0)) ∧ Below w.heap.size w w' := by
 have b1 := xqc w (.cells (dcC 2 nm ot nu va un A n c pl at1) 62);have b2 := xqc (w.alloc (.cells (dcC 2 nm ot nu va un A n c pl at1) 62)) (.cells zDc 62);have b3 := xqc ((w.alloc (.cells (dcC 2 nm ot nu va un A n c pl at1) 62)).alloc (.cells zDc 62)) (.cells (dcC 2 nm ⟨#[]⟩ ⟨#[]⟩ ⟨#[]⟩ ⟨#[]⟩ none 0 0 0 0) 62);have h_rx0 := (xqd w 62 (dcC 2 nm ot nu va un A n c pl at1)).below b2;have x0 := h_rx0.cell (k := 0) (v := .int .i64 2) rfl;have x1 := h_rx0.cell (k := 1) (v := .string nm) rfl;have h_rx := h_rx0.below b3;have h_rz := (xqd (w.alloc (.cells (dcC 2 nm ot nu va un A n c pl at1) 62)) 62 zDc).below b3;have h_ro := xqd ((w.alloc (.cells (dcC 2 nm ot nu va un A n c pl at1) 62)).alloc (.cells zDc 62)) 62 (dcC 2 nm ⟨#[]⟩ ⟨#[]⟩ ⟨#[]⟩ ⟨#[]⟩ none 0 0 0 0);simp only [World.size_alloc] at h_rz h_ro;have bw := xqa (xqa b1 b2) b3;clear b1 b2 b3 h_rx0;have HBd : Hid (∀ W, (Instr.build 62 ([(0, .int .i64 2), (1, .string nm)] : List (Nat × Value)).toArray).run Tryz.prog W = .ok (.agg (dcC 2 nm ⟨#[]⟩ ⟨#[]⟩ ⟨#[]⟩ ⟨#[]⟩ none 0 0 0 0)) W) := fun W => by kernel_rfl
 have HUb : Hid (xq7 Tryz.prog 62 (dcC 2 nm ⟨#[]⟩ ⟨#[]⟩ ⟨#[]⟩ ⟨#[]⟩ none 0 0 0 0).size ∧ zDc.size = (dcC 2 nm ⟨#[]⟩ ⟨#[]⟩ ⟨#[]⟩ ⟨#[]⟩ none 0 0 0 0).size ∧ ∀ v ∈ dcC 2 nm ⟨#[]⟩ ⟨#[]⟩ ⟨#[]⟩ ⟨#[]⟩ none 0 0 0 0, v.oneCell' = true) := ⟨xq3 _ _ _ _ _ _ _ _ _ _ _, rfl, by simp [Value.oneCell']⟩;go_enter Tryz.func65, Tryz.ntmps65
 go_upto_region 2 with (first | (refine xqn (by rfl) _ _ (by rfl) _ (by rfl) _ (by assumption) ?_) | (refine xqg (by rfl) _ _ _ (by rfl) _ _ _ (by rfl) (by rfl) (by assumption) ?_))
 clear x0 x1 HBd HUb;generalize ((w.alloc (.cells (dcC 2 nm ot nu va un A n c pl at1) 62)).alloc (.cells zDc 62)).alloc (.cells (dcC 2 nm ⟨#[]⟩ ⟨#[]⟩ ⟨#[]⟩ ⟨#[]⟩ none 0 0 0 0) 62) = w1 at *;obtain ⟨q_o, eo⟩ : ∃ g, g = w.heap.size + 1 + 1 := ⟨_, rfl⟩;obtain ⟨q_z, ez⟩ : ∃ g, g = w.heap.size + 1 := ⟨_, rfl⟩;obtain ⟨q_x, ex⟩ : ∃ g, g = w.heap.size := ⟨_, rfl⟩;rw [← eo] at h_ro ⊢;rw [← ez] at h_rz ⊢;rw [← ex] at h_rx ⊢;have hne : Hid (q_o ≠ q_x ∧ q_o ≠ q_z ∧ q_x ≠ q_z) := by refine ⟨?_, ?_, ?_⟩ <;> omega
 have hxx : Hid (w.heap.size ≤ q_x ∧ w.heap.size ≤ q_z ∧ w.heap.size ≤ q_o) := by refine ⟨?_, ?_, ?_⟩ <;> omega
 clear eo ez ex;have HX := hid h_rx;have HZ := hid h_rz;have HO := hid h_ro;have HB := hid bw;have k0 := h_rx.cell (k := 0) (v := .int .i64 2) rfl;clear h_rx h_rz h_ro bw;go_wp2_with fail
 refine xv1 12 [some 21, some 22, some 23, some 24, some 25, some 26, some 27, none, some 28, none, some 29, none] ?aF (fun wx wy => ((RowA wx q_x 62 (dcC 2 nm ot nu va un A n c pl at1) ∧ (∃ v3 : Value, ∃ v5 : Value, ∃ v4 : Value, RowA wx q_o 62 #[.int .i64 2, .string nm, .string ⟨#[]⟩, v3, v4, v5, .slice none 0 0, .int .i64 0, .int .i64 0]) ∧ RowA wx q_z 62 zDc ∧ Below w.heap.size w wx) → (RowA wy q_x 62 (dcC 2 nm ot nu va un A n c pl at1) ∧ (∃ v3 : Value, ∃ v5 : Value, ∃ v4 : Value, RowA wy q_o 62 #[.int .i64 2, .string nm, .string ⟨#[]⟩, v3, v4, v5, .slice none 0 0, .int .i64 0, .int .i64 0]) ∧ RowA wy q_z 62 zDc ∧ Below w.heap.size w wy)) ∧ (wx.cell? ⟨q_o, 3, none⟩ = some (.string nu) → wy.cell? ⟨q_o, 3, none⟩ = some (.string nu)) ∧ (wx.cell? ⟨q_o, 5, none⟩ = some (.string un) → wy.cell? ⟨q_o, 5, none⟩ = some (.string un)) ∧ (wx.cell? ⟨q_o, 4, none⟩ = some (.string va) → wy.cell? ⟨q_o, 4, none⟩ = some (.string va))) (fun wx => RowA wx q_x 62 (dcC 2 nm ot nu va un A n c pl at1) ∧ (∃ v3 : Value, ∃ v5 : Value, ∃ v4 : Value, RowA wx q_o 62 #[.int .i64 2, .string nm, .string ⟨#[]⟩, v3, v4, v5, .slice none 0 0, .int .i64 0, .int .i64 0]) ∧ RowA wx q_z 62 zDc ∧ Below w.heap.size w wx) (fun k vv wx => match k with
  | 0 => vv = .pointer (some ⟨q_x, 3, none⟩)
  | 1 => vv = .string nu
  | 2 => vv = .pointer (some ⟨q_x, 5, none⟩)
  | 3 => vv = .string un
  | 4 => vv = .pointer (some ⟨q_x, 4, none⟩)
  | 5 => vv = .string va
  | 6 => vv = .pointer (some ⟨q_o, 3, none⟩)
  | 7 => wx.cell? ⟨q_o, 3, none⟩ = some (.string nu)
  | 8 => vv = .pointer (some ⟨q_o, 5, none⟩)
  | 9 => wx.cell? ⟨q_o, 5, none⟩ = some (.string un)
  | 10 => vv = .pointer (some ⟨q_o, 4, none⟩)
  | _ => wx.cell? ⟨q_o, 4, none⟩ = some (.string va))
  (by kernel_rfl) ?haF rfl (by kernel_rfl) (fun _ _ _ _ _ h => h) ?hSb ?hPb ?hS ?hop ?hfin
 case haF =>
  intro vals;simp only [xqx, dAt, Act.put, List.setIfInBounds_toArray, List.set_cons_zero, List.set_cons_succ];exact rfl
 case hSb => exact fun wx wy h k => h.1 k
 case hPb =>
  intro k v wa wb hb hS h
  match k, h with
  | 0, h => exact h
  | 1, h => exact h
  | 2, h => exact h
  | 3, h => exact h
  | 4, h => exact h
  | 5, h => exact h
  | 6, h => exact h
  | 7, h => exact hb.2.1 h
  | 8, h => exact h
  | 9, h => exact hb.2.2.1 h
  | 10, h => exact h
  | _ + 11, h => exact hb.2.2.2 h
 case hS => exact ⟨HX.out, ⟨_, _, _, HO.out⟩, HZ.out, HB.out.drew⟩
 case hop =>
  refine .cons (k := 0) ?_ (.cons (k := 1) ?_ (.cons (k := 2) ?_ (.cons (k := 3) ?_ (.cons (k := 4) ?_ (.cons (k := 5) ?_ (.cons (k := 6) ?_ (.cons (k := 7) ?_ (.cons (k := 8) ?_ (.cons (k := 9) ?_ (.cons (k := 10) ?_ (.cons (k := 11) ?_ (.nil))))))))))))
  all_goals intro vals wr hS hd KC hK
  all_goals (show Oper.wp _ _ _ _ _ _; dsimp only)
  · go_simp;refine hK _ _ rfl ⟨fun h => h, fun h => h, fun h => h, fun h => h⟩ (by first | rfl | simp)
  · have d0 : vals 0 = _ := hd 0 (by decide +kernel);rw [d0];have c0 := hS.1.cell (k := 3) (v := .string nu) rfl;go_simp;refine hK _ _ rfl ⟨fun h => h, fun h => h, fun h => h, fun h => h⟩ (by first | rfl | simp)
  · go_simp;refine hK _ _ rfl ⟨fun h => h, fun h => h, fun h => h, fun h => h⟩ (by first | rfl | simp)
  · have d0 : vals 2 = _ := hd 2 (by decide +kernel);rw [d0];have c0 := hS.1.cell (k := 5) (v := .string un) rfl;go_simp;refine hK _ _ rfl ⟨fun h => h, fun h => h, fun h => h, fun h => h⟩ (by first | rfl | simp)
  · go_simp;refine hK _ _ rfl ⟨fun h => h, fun h => h, fun h => h, fun h => h⟩ (by first | rfl | simp)
  · have d0 : vals 4 = _ := hd 4 (by decide +kernel);rw [d0];have c0 := hS.1.cell (k := 4) (v := .string va) rfl;go_simp;refine hK _ _ rfl ⟨fun h => h, fun h => h, fun h => h, fun h => h⟩ (by first | rfl | simp)
  · go_simp;refine hK _ _ rfl ⟨fun h => h, fun h => h, fun h => h, fun h => h⟩ (by first | rfl | simp)
  · have d1 : vals 1 = _ := hd 1 (by decide +kernel);have d2 : vals 6 = _ := hd 6 (by decide +kernel);rw [d1, d2];obtain ⟨hsx, ⟨v3, v5, v4, hro⟩, hsz, hsb⟩ := id hS;have c0 := hro.cell (k := 3) (v := v3) rfl;have f0 := hro.free 3;go_simp
    refine hK _ _ rfl ⟨fun _ => ⟨hsx.far hne.out.1 _ _, ⟨_, _, _, (show RowA _ q_o 62 #[.int .i64 2, .string nm, .string ⟨#[]⟩, .string nu, v4, v5, .slice none 0 0, .int .i64 0, .int .i64 0] from hro.set 3 (.string nu))⟩, hsz.far hne.out.2.1 _ _, xqt hsb hxx.out.2.2 _ _⟩, fun _ => (RowA.cell (show RowA _ q_o 62 #[.int .i64 2, .string nm, .string ⟨#[]⟩, .string nu, v4, v5, .slice none 0 0, .int .i64 0, .int .i64 0] from hro.set 3 (.string nu)) (k := 3) rfl), fun h => by
     have h9 := hro.cell (k := 5) (v := v5) rfl;rw [h] at h9;injection h9 with h9
     subst h9;exact (RowA.cell (show RowA _ q_o 62 #[.int .i64 2, .string nm, .string ⟨#[]⟩, .string nu, v4, .string un, .slice none 0 0, .int .i64 0, .int .i64 0] from hro.set 3 (.string nu)) (k := 5) rfl), fun h => by
     have h9 := hro.cell (k := 4) (v := v4) rfl;rw [h] at h9;injection h9 with h9
     subst h9
     exact (RowA.cell (show RowA _ q_o 62 #[.int .i64 2, .string nm, .string ⟨#[]⟩, .string nu, .string va, v5, .slice none 0 0, .int .i64 0, .int .i64 0] from hro.set 3 (.string nu)) (k := 4) rfl)⟩ ?_
    exact (RowA.cell (show RowA _ q_o 62 #[.int .i64 2, .string nm, .string ⟨#[]⟩, .string nu, v4, v5, .slice none 0 0, .int .i64 0, .int .i64 0] from hro.set 3 (.string nu)) (k := 3) rfl)
  · go_simp;refine hK _ _ rfl ⟨fun h => h, fun h => h, fun h => h, fun h => h⟩ (by first | rfl | simp)
  · have d1 : vals 3 = _ := hd 3 (by decide +kernel);have d2 : vals 8 = _ := hd 8 (by decide +kernel);rw [d1, d2];obtain ⟨hsx, ⟨v3, v5, v4, hro⟩, hsz, hsb⟩ := id hS;have c0 := hro.cell (k := 5) (v := v5) rfl;have f0 := hro.free 5;go_simp
    refine hK _ _ rfl ⟨fun _ => ⟨hsx.far hne.out.1 _ _, ⟨_, _, _, (show RowA _ q_o 62 #[.int .i64 2, .string nm, .string ⟨#[]⟩, v3, v4, .string un, .slice none 0 0, .int .i64 0, .int .i64 0] from hro.set 5 (.string un))⟩, hsz.far hne.out.2.1 _ _, xqt hsb hxx.out.2.2 _ _⟩, fun h => by
     have h9 := hro.cell (k := 3) (v := v3) rfl;rw [h] at h9;injection h9 with h9
     subst h9;exact (RowA.cell (show RowA _ q_o 62 #[.int .i64 2, .string nm, .string ⟨#[]⟩, .string nu, v4, .string un, .slice none 0 0, .int .i64 0, .int .i64 0] from hro.set 5 (.string un)) (k := 3) rfl), fun _ => (RowA.cell (show RowA _ q_o 62 #[.int .i64 2, .string nm, .string ⟨#[]⟩, v3, v4, .string un, .slice none 0 0, .int .i64 0, .int .i64 0] from hro.set 5 (.string un)) (k := 5) rfl), fun h => by
     have h9 := hro.cell (k := 4) (v := v4) rfl;rw [h] at h9;injection h9 with h9
     subst h9
     exact (RowA.cell (show RowA _ q_o 62 #[.int .i64 2, .string nm, .string ⟨#[]⟩, v3, .string va, .string un, .slice none 0 0, .int .i64 0, .int .i64 0] from hro.set 5 (.string un)) (k := 4) rfl)⟩ ?_
    exact (RowA.cell (show RowA _ q_o 62 #[.int .i64 2, .string nm, .string ⟨#[]⟩, v3, v4, .string un, .slice none 0 0, .int .i64 0, .int .i64 0] from hro.set 5 (.string un)) (k := 5) rfl)
  · go_simp;refine hK _ _ rfl ⟨fun h => h, fun h => h, fun h => h, fun h => h⟩ (by first | rfl | simp)
  · have d1 : vals 5 = _ := hd 5 (by decide +kernel);have d2 : vals 10 = _ := hd 10 (by decide +kernel);rw [d1, d2];obtain ⟨hsx, ⟨v3, v5, v4, hro⟩, hsz, hsb⟩ := id hS;have c0 := hro.cell (k := 4) (v := v4) rfl;have f0 := hro.free 4;go_simp
    refine hK _ _ rfl ⟨fun _ => ⟨hsx.far hne.out.1 _ _, ⟨_, _, _, (show RowA _ q_o 62 #[.int .i64 2, .string nm, .string ⟨#[]⟩, v3, .string va, v5, .slice none 0 0, .int .i64 0, .int .i64 0] from hro.set 4 (.string va))⟩, hsz.far hne.out.2.1 _ _, xqt hsb hxx.out.2.2 _ _⟩, fun h => by
     have h9 := hro.cell (k := 3) (v := v3) rfl;rw [h] at h9;injection h9 with h9
     subst h9;exact (RowA.cell (show RowA _ q_o 62 #[.int .i64 2, .string nm, .string ⟨#[]⟩, .string nu, .string va, v5, .slice none 0 0, .int .i64 0, .int .i64 0] from hro.set 4 (.string va)) (k := 3) rfl), fun h => by
     have h9 := hro.cell (k := 5) (v := v5) rfl;rw [h] at h9;injection h9 with h9
     subst h9
     exact (RowA.cell (show RowA _ q_o 62 #[.int .i64 2, .string nm, .string ⟨#[]⟩, v3, .string va, .string un, .slice none 0 0, .int .i64 0, .int .i64 0] from hro.set 4 (.string va)) (k := 5) rfl), fun _ => (RowA.cell (show RowA _ q_o 62 #[.int .i64 2, .string nm, .string ⟨#[]⟩, v3, .string va, v5, .slice none 0 0, .int .i64 0, .int .i64 0] from hro.set 4 (.string va)) (k := 4) rfl)⟩ ?_
    exact (RowA.cell (show RowA _ q_o 62 #[.int .i64 2, .string nm, .string ⟨#[]⟩, v3, .string va, v5, .slice none 0 0, .int .i64 0, .int .i64 0] from hro.set 4 (.string va)) (k := 4) rfl)
 case hfin =>
  intro vals wr hS hP;obtain ⟨h_rx2, ⟨v3, v5, v4, h_ro2⟩, h_rz2, hb2⟩ := hS;have p3 : wr.cell? ⟨q_o, 3, none⟩ = some (.string nu) := hP 7 (by decide);have r3 := h_ro2.cell (k := 3) (v := v3) rfl;rw [p3] at r3;injection r3 with r3
  subst r3;have p5 : wr.cell? ⟨q_o, 5, none⟩ = some (.string un) := hP 9 (by decide);have r5 := h_ro2.cell (k := 5) (v := v5) rfl;rw [p5] at r5;injection r5 with r5
  subst r5;have p4 : wr.cell? ⟨q_o, 4, none⟩ = some (.string va) := hP 11 (by decide);have r4 := h_ro2.cell (k := 4) (v := v4) rfl;rw [p4] at r4;injection r4 with r4
  subst r4;clear HX HZ HO HB hP h_rx2 p3 p5 p4;refine wpAny_done (by kernel_rfl) ?_ _
  try dsimp only [Act.put]
  generalize wr = w2 at *;have HIo : Hid (InV w2 q_o 0 (dcC 2 nm ⟨#[]⟩ nu va un none 0 0 0 0)) := h_ro2.inV;have HMo : Hid (xq7 Tryz.prog 62 (dcC 2 nm ⟨#[]⟩ nu va un none 0 0 0 0).size) := xq3 _ _ _ _ _ _ _ _ _ _ _;have HZw : Hid (RowA w2 q_z 62 zDc) := h_rz2;have HU : Hid (xq7 Tryz.prog 62 (dcC 2 nm ⟨#[]⟩ nu va un none 0 0 0 0).size ∧ zDc.size = (dcC 2 nm ⟨#[]⟩ nu va un none 0 0 0 0).size ∧ ∀ v ∈ dcC 2 nm ⟨#[]⟩ nu va un none 0 0 0 0, v.oneCell' = true) := ⟨xq3 _ _ _ _ _ _ _ _ _ _ _, rfl, by simp [Value.oneCell']⟩;have HR : Hid (RowA (w2.setRow q_z (dcC 2 nm ⟨#[]⟩ nu va un none 0 0 0 0)) q_z 62 (dcC 2 nm ⟨#[]⟩ nu va un none 0 0 0 0)) := HZw.out.fill;have HE : Hid (Below w.heap.size w (w2.setRow q_z (dcC 2 nm ⟨#[]⟩ nu va un none 0 0 0 0))) := xqv hb2 hxx.out.2.1 _;clear h_ro2 h_rz2 hb2;go_wp2_with (first | (refine xqf (by rfl) _ _ (by rfl) _ _ (by rfl) _ (by assumption) (by assumption) ?_) | (refine xqi (by rfl) _ _ _ (by rfl) _ (by rfl) _ (by rfl) _ _ HZw HU ?_));refine bodyPost_ret (results_cell_row rfl _ _ _ 62 (dcC 2 nm ⟨#[]⟩ nu va un none 0 0 0 0) (0, 0) _ rfl HR.out Tryz.underlying62 rfl yq7) rfl ?_;exact ⟨rfl, HE.out⟩
set_option maxRecDepth 100000 in
theorem wOwn3_c (nm ot nu va un : ByteArray) (A : Option Addr) (n c : Nat) (pl at1 : Int) (w : World) :
 Calls Tryz.prog 65 #[.agg (dcC 3 nm ot nu va un A n c pl at1)] w fun e w' => e = .returned (.agg (dcC 3 nm ot nu ⟨#[]⟩ ⟨#[]⟩ none 0 0 0 0)) ∧ Below w.heap.size w w' := by
 have b1 := xqc w (.cells (dcC 3 nm ot nu va un A n c pl at1) 62);have b2 := xqc (w.alloc (.cells (dcC 3 nm ot nu va un A n c pl at1) 62)) (.cells zDc 62);have b3 := xqc ((w.alloc (.cells (dcC 3 nm ot nu va un A n c pl at1) 62)).alloc (.cells zDc 62)) (.cells (dcC 3 nm ⟨#[]⟩ ⟨#[]⟩ ⟨#[]⟩ ⟨#[]⟩ none 0 0 0 0) 62);have h_rx0 := (xqd w 62 (dcC 3 nm ot nu va un A n c pl at1)).below b2;have x0 := h_rx0.cell (k := 0) (v := .int .i64 3) rfl;have x1 := h_rx0.cell (k := 1) (v := .string nm) rfl;have h_rx := h_rx0.below b3;have h_rz := (xqd (w.alloc (.cells (dcC 3 nm ot nu va un A n c pl at1) 62)) 62 zDc).below b3;have h_ro := xqd ((w.alloc (.cells (dcC 3 nm ot nu va un A n c pl at1) 62)).alloc (.cells zDc 62)) 62 (dcC 3 nm ⟨#[]⟩ ⟨#[]⟩ ⟨#[]⟩ ⟨#[]⟩ none 0 0 0 0);simp only [World.size_alloc] at h_rz h_ro;have bw := xqa (xqa b1 b2) b3;clear b1 b2 b3 h_rx0;have HBd : Hid (∀ W, (Instr.build 62 ([(0, .int .i64 3), (1, .string nm)] : List (Nat × Value)).toArray).run Tryz.prog W = .ok (.agg (dcC 3 nm ⟨#[]⟩ ⟨#[]⟩ ⟨#[]⟩ ⟨#[]⟩ none 0 0 0 0)) W) := fun W => by kernel_rfl
 have HUb : Hid (xq7 Tryz.prog 62 (dcC 3 nm ⟨#[]⟩ ⟨#[]⟩ ⟨#[]⟩ ⟨#[]⟩ none 0 0 0 0).size ∧ zDc.size = (dcC 3 nm ⟨#[]⟩ ⟨#[]⟩ ⟨#[]⟩ ⟨#[]⟩ none 0 0 0 0).size ∧ ∀ v ∈ dcC 3 nm ⟨#[]⟩ ⟨#[]⟩ ⟨#[]⟩ ⟨#[]⟩ none 0 0 0 0, v.oneCell' = true) := ⟨xq3 _ _ _ _ _ _ _ _ _ _ _, rfl, by simp [Value.oneCell']⟩;go_enter Tryz.func65, Tryz.ntmps65
 go_upto_region 2 with (first | (refine xqn (by rfl) _ _ (by rfl) _ (by rfl) _ (by assumption) ?_) | (refine xqg (by rfl) _ _ _ (by rfl) _ _ _ (by rfl) (by rfl) (by assumption) ?_))
 clear x0 x1 HBd HUb;generalize ((w.alloc (.cells (dcC 3 nm ot nu va un A n c pl at1) 62)).alloc (.cells zDc 62)).alloc (.cells (dcC 3 nm ⟨#[]⟩ ⟨#[]⟩ ⟨#[]⟩ ⟨#[]⟩ none 0 0 0 0) 62) = w1 at *;obtain ⟨q_o, eo⟩ : ∃ g, g = w.heap.size + 1 + 1 := ⟨_, rfl⟩;obtain ⟨q_z, ez⟩ : ∃ g, g = w.heap.size + 1 := ⟨_, rfl⟩;obtain ⟨q_x, ex⟩ : ∃ g, g = w.heap.size := ⟨_, rfl⟩;rw [← eo] at h_ro ⊢;rw [← ez] at h_rz ⊢;rw [← ex] at h_rx ⊢;have hne : Hid (q_o ≠ q_x ∧ q_o ≠ q_z ∧ q_x ≠ q_z) := by refine ⟨?_, ?_, ?_⟩ <;> omega
 have hxx : Hid (w.heap.size ≤ q_x ∧ w.heap.size ≤ q_z ∧ w.heap.size ≤ q_o) := by refine ⟨?_, ?_, ?_⟩ <;> omega
 clear eo ez ex;have HX := hid h_rx;have HZ := hid h_rz;have HO := hid h_ro;have HB := hid bw;have k0 := h_rx.cell (k := 0) (v := .int .i64 3) rfl;clear h_rx h_rz h_ro bw;go_wp2_with fail
 refine xv1 8 [some 32, some 33, some 34, some 35, some 36, none, some 37, none] ?aF (fun wx wy => ((RowA wx q_x 62 (dcC 3 nm ot nu va un A n c pl at1) ∧ (∃ v2 : Value, ∃ v3 : Value, RowA wx q_o 62 #[.int .i64 3, .string nm, v2, v3, .string ⟨#[]⟩, .string ⟨#[]⟩, .slice none 0 0, .int .i64 0, .int .i64 0]) ∧ RowA wx q_z 62 zDc ∧ Below w.heap.size w wx) → (RowA wy q_x 62 (dcC 3 nm ot nu va un A n c pl at1) ∧ (∃ v2 : Value, ∃ v3 : Value, RowA wy q_o 62 #[.int .i64 3, .string nm, v2, v3, .string ⟨#[]⟩, .string ⟨#[]⟩, .slice none 0 0, .int .i64 0, .int .i64 0]) ∧ RowA wy q_z 62 zDc ∧ Below w.heap.size w wy)) ∧ (wx.cell? ⟨q_o, 2, none⟩ = some (.string ot) → wy.cell? ⟨q_o, 2, none⟩ = some (.string ot)) ∧ (wx.cell? ⟨q_o, 3, none⟩ = some (.string nu) → wy.cell? ⟨q_o, 3, none⟩ = some (.string nu))) (fun wx => RowA wx q_x 62 (dcC 3 nm ot nu va un A n c pl at1) ∧ (∃ v2 : Value, ∃ v3 : Value, RowA wx q_o 62 #[.int .i64 3, .string nm, v2, v3, .string ⟨#[]⟩, .string ⟨#[]⟩, .slice none 0 0, .int .i64 0, .int .i64 0]) ∧ RowA wx q_z 62 zDc ∧ Below w.heap.size w wx) (fun k vv wx => match k with
  | 0 => vv = .pointer (some ⟨q_x, 2, none⟩)
  | 1 => vv = .string ot
  | 2 => vv = .pointer (some ⟨q_x, 3, none⟩)
  | 3 => vv = .string nu
  | 4 => vv = .pointer (some ⟨q_o, 2, none⟩)
  | 5 => wx.cell? ⟨q_o, 2, none⟩ = some (.string ot)
  | 6 => vv = .pointer (some ⟨q_o, 3, none⟩)
  | _ => wx.cell? ⟨q_o, 3, none⟩ = some (.string nu))
  (by kernel_rfl) ?haF rfl (by kernel_rfl) (fun _ _ _ _ _ h => h) ?hSb ?hPb ?hS ?hop ?hfin
 case haF =>
  intro vals;simp only [xqx, dAt, Act.put, List.setIfInBounds_toArray, List.set_cons_zero, List.set_cons_succ];exact rfl
 case hSb => exact fun wx wy h k => h.1 k
 case hPb =>
  intro k v wa wb hb hS h
  match k, h with
  | 0, h => exact h
  | 1, h => exact h
  | 2, h => exact h
  | 3, h => exact h
  | 4, h => exact h
  | 5, h => exact hb.2.1 h
  | 6, h => exact h
  | _ + 7, h => exact hb.2.2 h
 case hS => exact ⟨HX.out, ⟨_, _, HO.out⟩, HZ.out, HB.out.drew⟩
 case hop =>
  refine .cons (k := 0) ?_ (.cons (k := 1) ?_ (.cons (k := 2) ?_ (.cons (k := 3) ?_ (.cons (k := 4) ?_ (.cons (k := 5) ?_ (.cons (k := 6) ?_ (.cons (k := 7) ?_ (.nil))))))))
  all_goals intro vals wr hS hd KC hK
  all_goals (show Oper.wp _ _ _ _ _ _; dsimp only)
  · go_simp;refine hK _ _ rfl ⟨fun h => h, fun h => h, fun h => h⟩ (by first | rfl | simp)
  · have d0 : vals 0 = _ := hd 0 (by decide +kernel);rw [d0];have c0 := hS.1.cell (k := 2) (v := .string ot) rfl;go_simp;refine hK _ _ rfl ⟨fun h => h, fun h => h, fun h => h⟩ (by first | rfl | simp)
  · go_simp;refine hK _ _ rfl ⟨fun h => h, fun h => h, fun h => h⟩ (by first | rfl | simp)
  · have d0 : vals 2 = _ := hd 2 (by decide +kernel);rw [d0];have c0 := hS.1.cell (k := 3) (v := .string nu) rfl;go_simp;refine hK _ _ rfl ⟨fun h => h, fun h => h, fun h => h⟩ (by first | rfl | simp)
  · go_simp;refine hK _ _ rfl ⟨fun h => h, fun h => h, fun h => h⟩ (by first | rfl | simp)
  · have d1 : vals 1 = _ := hd 1 (by decide +kernel);have d2 : vals 4 = _ := hd 4 (by decide +kernel);rw [d1, d2];obtain ⟨hsx, ⟨v2, v3, hro⟩, hsz, hsb⟩ := id hS;have c0 := hro.cell (k := 2) (v := v2) rfl;have f0 := hro.free 2;go_simp
    refine hK _ _ rfl ⟨fun _ => ⟨hsx.far hne.out.1 _ _, ⟨_, _, (show RowA _ q_o 62 #[.int .i64 3, .string nm, .string ot, v3, .string ⟨#[]⟩, .string ⟨#[]⟩, .slice none 0 0, .int .i64 0, .int .i64 0] from hro.set 2 (.string ot))⟩, hsz.far hne.out.2.1 _ _, xqt hsb hxx.out.2.2 _ _⟩, fun _ => (RowA.cell (show RowA _ q_o 62 #[.int .i64 3, .string nm, .string ot, v3, .string ⟨#[]⟩, .string ⟨#[]⟩, .slice none 0 0, .int .i64 0, .int .i64 0] from hro.set 2 (.string ot)) (k := 2) rfl), fun h => by
     have h9 := hro.cell (k := 3) (v := v3) rfl;rw [h] at h9;injection h9 with h9
     subst h9
     exact (RowA.cell (show RowA _ q_o 62 #[.int .i64 3, .string nm, .string ot, .string nu, .string ⟨#[]⟩, .string ⟨#[]⟩, .slice none 0 0, .int .i64 0, .int .i64 0] from hro.set 2 (.string ot)) (k := 3) rfl)⟩ ?_
    exact (RowA.cell (show RowA _ q_o 62 #[.int .i64 3, .string nm, .string ot, v3, .string ⟨#[]⟩, .string ⟨#[]⟩, .slice none 0 0, .int .i64 0, .int .i64 0] from hro.set 2 (.string ot)) (k := 2) rfl)
  · go_simp;refine hK _ _ rfl ⟨fun h => h, fun h => h, fun h => h⟩ (by first | rfl | simp)
  · have d1 : vals 3 = _ := hd 3 (by decide +kernel);have d2 : vals 6 = _ := hd 6 (by decide +kernel);rw [d1, d2];obtain ⟨hsx, ⟨v2, v3, hro⟩, hsz, hsb⟩ := id hS;have c0 := hro.cell (k := 3) (v := v3) rfl;have f0 := hro.free 3;go_simp
    refine hK _ _ rfl ⟨fun _ => ⟨hsx.far hne.out.1 _ _, ⟨_, _, (show RowA _ q_o 62 #[.int .i64 3, .string nm, v2, .string nu, .string ⟨#[]⟩, .string ⟨#[]⟩, .slice none 0 0, .int .i64 0, .int .i64 0] from hro.set 3 (.string nu))⟩, hsz.far hne.out.2.1 _ _, xqt hsb hxx.out.2.2 _ _⟩, fun h => by
     have h9 := hro.cell (k := 2) (v := v2) rfl;rw [h] at h9;injection h9 with h9
     subst h9
     exact (RowA.cell (show RowA _ q_o 62 #[.int .i64 3, .string nm, .string ot, .string nu, .string ⟨#[]⟩, .string ⟨#[]⟩, .slice none 0 0, .int .i64 0, .int .i64 0] from hro.set 3 (.string nu)) (k := 2) rfl), fun _ => (RowA.cell (show RowA _ q_o 62 #[.int .i64 3, .string nm, v2, .string nu, .string ⟨#[]⟩, .string ⟨#[]⟩, .slice none 0 0, .int .i64 0, .int .i64 0] from hro.set 3 (.string nu)) (k := 3) rfl)⟩ ?_
    exact (RowA.cell (show RowA _ q_o 62 #[.int .i64 3, .string nm, v2, .string nu, .string ⟨#[]⟩, .string ⟨#[]⟩, .slice none 0 0, .int .i64 0, .int .i64 0] from hro.set 3 (.string nu)) (k := 3) rfl)
 case hfin =>
  intro vals wr hS hP;obtain ⟨h_rx2, ⟨v2, v3, h_ro2⟩, h_rz2, hb2⟩ := hS;have p2 : wr.cell? ⟨q_o, 2, none⟩ = some (.string ot) := hP 5 (by decide);have r2 := h_ro2.cell (k := 2) (v := v2) rfl;rw [p2] at r2;injection r2 with r2
  subst r2;have p3 : wr.cell? ⟨q_o, 3, none⟩ = some (.string nu) := hP 7 (by decide);have r3 := h_ro2.cell (k := 3) (v := v3) rfl;rw [p3] at r3;injection r3 with r3
  subst r3;clear HX HZ HO HB hP h_rx2 p2 p3;refine wpAny_done (by kernel_rfl) ?_ _
  try dsimp only [Act.put]
  generalize wr = w2 at *;have HIo : Hid (InV w2 q_o 0 (dcC 3 nm ot nu ⟨#[]⟩ ⟨#[]⟩ none 0 0 0 0)) := h_ro2.inV;have HMo : Hid (xq7 Tryz.prog 62 (dcC 3 nm ot nu ⟨#[]⟩ ⟨#[]⟩ none 0 0 0 0).size) := xq3 _ _ _ _ _ _ _ _ _ _ _;have HZw : Hid (RowA w2 q_z 62 zDc) := h_rz2;have HU : Hid (xq7 Tryz.prog 62 (dcC 3 nm ot nu ⟨#[]⟩ ⟨#[]⟩ none 0 0 0 0).size ∧ zDc.size = (dcC 3 nm ot nu ⟨#[]⟩ ⟨#[]⟩ none 0 0 0 0).size ∧ ∀ v ∈ dcC 3 nm ot nu ⟨#[]⟩ ⟨#[]⟩ none 0 0 0 0, v.oneCell' = true) := ⟨xq3 _ _ _ _ _ _ _ _ _ _ _, rfl, by simp [Value.oneCell']⟩;have HR : Hid (RowA (w2.setRow q_z (dcC 3 nm ot nu ⟨#[]⟩ ⟨#[]⟩ none 0 0 0 0)) q_z 62 (dcC 3 nm ot nu ⟨#[]⟩ ⟨#[]⟩ none 0 0 0 0)) := HZw.out.fill;have HE : Hid (Below w.heap.size w (w2.setRow q_z (dcC 3 nm ot nu ⟨#[]⟩ ⟨#[]⟩ none 0 0 0 0))) := xqv hb2 hxx.out.2.1 _;clear h_ro2 h_rz2 hb2;go_wp2_with (first | (refine xqf (by rfl) _ _ (by rfl) _ _ (by rfl) _ (by assumption) (by assumption) ?_) | (refine xqi (by rfl) _ _ _ (by rfl) _ (by rfl) _ (by rfl) _ _ HZw HU ?_));refine bodyPost_ret (results_cell_row rfl _ _ _ 62 (dcC 3 nm ot nu ⟨#[]⟩ ⟨#[]⟩ none 0 0 0 0) (0, 0) _ rfl HR.out Tryz.underlying62 rfl yq7) rfl ?_;exact ⟨rfl, HE.out⟩
set_option maxRecDepth 100000 in
theorem wOwn4_c (nm ot nu va un : ByteArray) (A : Option Addr) (n c : Nat) (pl at1 : Int) (w : World) :
 Calls Tryz.prog 65 #[.agg (dcC 4 nm ot nu va un A n c pl at1)] w fun e w' => e = .returned (.agg (dcC 4 nm ⟨#[]⟩ ⟨#[]⟩ ⟨#[]⟩ ⟨#[]⟩ A n c 0 0)) ∧ Below w.heap.size w w' := by
 have b1 := xqc w (.cells (dcC 4 nm ot nu va un A n c pl at1) 62);have b2 := xqc (w.alloc (.cells (dcC 4 nm ot nu va un A n c pl at1) 62)) (.cells zDc 62);have b3 := xqc ((w.alloc (.cells (dcC 4 nm ot nu va un A n c pl at1) 62)).alloc (.cells zDc 62)) (.cells (dcC 4 nm ⟨#[]⟩ ⟨#[]⟩ ⟨#[]⟩ ⟨#[]⟩ none 0 0 0 0) 62);have h_rx0 := (xqd w 62 (dcC 4 nm ot nu va un A n c pl at1)).below b2;have x0 := h_rx0.cell (k := 0) (v := .int .i64 4) rfl;have x1 := h_rx0.cell (k := 1) (v := .string nm) rfl;have h_rx := h_rx0.below b3;have h_rz := (xqd (w.alloc (.cells (dcC 4 nm ot nu va un A n c pl at1) 62)) 62 zDc).below b3;have h_ro := xqd ((w.alloc (.cells (dcC 4 nm ot nu va un A n c pl at1) 62)).alloc (.cells zDc 62)) 62 (dcC 4 nm ⟨#[]⟩ ⟨#[]⟩ ⟨#[]⟩ ⟨#[]⟩ none 0 0 0 0);simp only [World.size_alloc] at h_rz h_ro;have bw := xqa (xqa b1 b2) b3;clear b1 b2 b3 h_rx0;have HBd : Hid (∀ W, (Instr.build 62 ([(0, .int .i64 4), (1, .string nm)] : List (Nat × Value)).toArray).run Tryz.prog W = .ok (.agg (dcC 4 nm ⟨#[]⟩ ⟨#[]⟩ ⟨#[]⟩ ⟨#[]⟩ none 0 0 0 0)) W) := fun W => by kernel_rfl
 have HUb : Hid (xq7 Tryz.prog 62 (dcC 4 nm ⟨#[]⟩ ⟨#[]⟩ ⟨#[]⟩ ⟨#[]⟩ none 0 0 0 0).size ∧ zDc.size = (dcC 4 nm ⟨#[]⟩ ⟨#[]⟩ ⟨#[]⟩ ⟨#[]⟩ none 0 0 0 0).size ∧ ∀ v ∈ dcC 4 nm ⟨#[]⟩ ⟨#[]⟩ ⟨#[]⟩ ⟨#[]⟩ none 0 0 0 0, v.oneCell' = true) := ⟨xq3 _ _ _ _ _ _ _ _ _ _ _, rfl, by simp [Value.oneCell']⟩;go_enter Tryz.func65, Tryz.ntmps65
 go_upto_region 2 with (first | (refine xqn (by rfl) _ _ (by rfl) _ (by rfl) _ (by assumption) ?_) | (refine xqg (by rfl) _ _ _ (by rfl) _ _ _ (by rfl) (by rfl) (by assumption) ?_))
 clear x0 x1 HBd HUb;generalize ((w.alloc (.cells (dcC 4 nm ot nu va un A n c pl at1) 62)).alloc (.cells zDc 62)).alloc (.cells (dcC 4 nm ⟨#[]⟩ ⟨#[]⟩ ⟨#[]⟩ ⟨#[]⟩ none 0 0 0 0) 62) = w1 at *;obtain ⟨q_o, eo⟩ : ∃ g, g = w.heap.size + 1 + 1 := ⟨_, rfl⟩;obtain ⟨q_z, ez⟩ : ∃ g, g = w.heap.size + 1 := ⟨_, rfl⟩;obtain ⟨q_x, ex⟩ : ∃ g, g = w.heap.size := ⟨_, rfl⟩;rw [← eo] at h_ro ⊢;rw [← ez] at h_rz ⊢;rw [← ex] at h_rx ⊢;have hne : Hid (q_o ≠ q_x ∧ q_o ≠ q_z ∧ q_x ≠ q_z) := by refine ⟨?_, ?_, ?_⟩ <;> omega
 have hxx : Hid (w.heap.size ≤ q_x ∧ w.heap.size ≤ q_z ∧ w.heap.size ≤ q_o) := by refine ⟨?_, ?_, ?_⟩ <;> omega
 clear eo ez ex;have HX := hid h_rx;have HZ := hid h_rz;have HO := hid h_ro;have HB := hid bw;have k0 := h_rx.cell (k := 0) (v := .int .i64 4) rfl;clear h_rx h_rz h_ro bw;have k6 := HX.out.cell (k := 6) (v := .slice A n c) rfl;have o6 := HO.out.cell (k := 6) (v := .slice none 0 0) rfl;have f6 := HO.out.free 6;have h_ro2 : RowA (w1.setCell ⟨q_o, 6, none⟩ (.slice A n c)) q_o 62 (dcC 4 nm ⟨#[]⟩ ⟨#[]⟩ ⟨#[]⟩ ⟨#[]⟩ A n c 0 0) := HO.out.set 6 (.slice A n c);have h_rz2 := HZ.out.far hne.out.2.1 6 (.slice A n c);have hb2 := xqt HB.out hxx.out.2.2 6 (.slice A n c);have HIo : Hid (InV (w1.setCell ⟨q_o, 6, none⟩ (.slice A n c)) q_o 0 (dcC 4 nm ⟨#[]⟩ ⟨#[]⟩ ⟨#[]⟩ ⟨#[]⟩ A n c 0 0)) := h_ro2.inV;have HMo : Hid (xq7 Tryz.prog 62 (dcC 4 nm ⟨#[]⟩ ⟨#[]⟩ ⟨#[]⟩ ⟨#[]⟩ A n c 0 0).size) := xq3 _ _ _ _ _ _ _ _ _ _ _;have HZw : Hid (RowA (w1.setCell ⟨q_o, 6, none⟩ (.slice A n c)) q_z 62 zDc) := h_rz2;have HU : Hid (xq7 Tryz.prog 62 (dcC 4 nm ⟨#[]⟩ ⟨#[]⟩ ⟨#[]⟩ ⟨#[]⟩ A n c 0 0).size ∧ zDc.size = (dcC 4 nm ⟨#[]⟩ ⟨#[]⟩ ⟨#[]⟩ ⟨#[]⟩ A n c 0 0).size ∧ ∀ v ∈ dcC 4 nm ⟨#[]⟩ ⟨#[]⟩ ⟨#[]⟩ ⟨#[]⟩ A n c 0 0, v.oneCell' = true) := ⟨xq3 _ _ _ _ _ _ _ _ _ _ _, rfl, by simp [Value.oneCell']⟩;have HR : Hid (RowA ((w1.setCell ⟨q_o, 6, none⟩ (.slice A n c)).setRow q_z (dcC 4 nm ⟨#[]⟩ ⟨#[]⟩ ⟨#[]⟩ ⟨#[]⟩ A n c 0 0)) q_z 62 (dcC 4 nm ⟨#[]⟩ ⟨#[]⟩ ⟨#[]⟩ ⟨#[]⟩ A n c 0 0)) := HZw.out.fill;have HE : Hid (Below w.heap.size w ((w1.setCell ⟨q_o, 6, none⟩ (.slice A n c)).setRow q_z (dcC 4 nm ⟨#[]⟩ ⟨#[]⟩ ⟨#[]⟩ ⟨#[]⟩ A n c 0 0))) := xqv hb2 hxx.out.2.1 _
 clear h_ro2 h_rz2 hb2;go_wp2_with (first | (refine xqf (by rfl) _ _ (by rfl) _ _ (by rfl) _ (by assumption) (by assumption) ?_) | (refine xqi (by rfl) _ _ _ (by rfl) _ (by rfl) _ (by rfl) _ _ HZw HU ?_));refine bodyPost_ret (results_cell_row rfl _ _ _ 62 (dcC 4 nm ⟨#[]⟩ ⟨#[]⟩ ⟨#[]⟩ ⟨#[]⟩ A n c 0 0) (0, 0) _ rfl HR.out Tryz.underlying62 rfl yq7) rfl ?_;exact ⟨rfl, HE.out⟩
set_option maxRecDepth 100000 in
theorem wOwn5_c (nm ot nu va un : ByteArray) (A : Option Addr) (n c : Nat) (pl at1 : Int) (w : World) :
 Calls Tryz.prog 65 #[.agg (dcC 5 nm ot nu va un A n c pl at1)] w fun e w' => e = .returned (.agg (dcC 5 nm ⟨#[]⟩ ⟨#[]⟩ ⟨#[]⟩ un A n c pl 0)) ∧ Below w.heap.size w w' := by
 have b1 := xqc w (.cells (dcC 5 nm ot nu va un A n c pl at1) 62);have b2 := xqc (w.alloc (.cells (dcC 5 nm ot nu va un A n c pl at1) 62)) (.cells zDc 62);have b3 := xqc ((w.alloc (.cells (dcC 5 nm ot nu va un A n c pl at1) 62)).alloc (.cells zDc 62)) (.cells (dcC 5 nm ⟨#[]⟩ ⟨#[]⟩ ⟨#[]⟩ ⟨#[]⟩ none 0 0 0 0) 62);have h_rx0 := (xqd w 62 (dcC 5 nm ot nu va un A n c pl at1)).below b2;have x0 := h_rx0.cell (k := 0) (v := .int .i64 5) rfl;have x1 := h_rx0.cell (k := 1) (v := .string nm) rfl;have h_rx := h_rx0.below b3;have h_rz := (xqd (w.alloc (.cells (dcC 5 nm ot nu va un A n c pl at1) 62)) 62 zDc).below b3;have h_ro := xqd ((w.alloc (.cells (dcC 5 nm ot nu va un A n c pl at1) 62)).alloc (.cells zDc 62)) 62 (dcC 5 nm ⟨#[]⟩ ⟨#[]⟩ ⟨#[]⟩ ⟨#[]⟩ none 0 0 0 0);simp only [World.size_alloc] at h_rz h_ro;have bw := xqa (xqa b1 b2) b3;clear b1 b2 b3 h_rx0;have HBd : Hid (∀ W, (Instr.build 62 ([(0, .int .i64 5), (1, .string nm)] : List (Nat × Value)).toArray).run Tryz.prog W = .ok (.agg (dcC 5 nm ⟨#[]⟩ ⟨#[]⟩ ⟨#[]⟩ ⟨#[]⟩ none 0 0 0 0)) W) := fun W => by kernel_rfl
 have HUb : Hid (xq7 Tryz.prog 62 (dcC 5 nm ⟨#[]⟩ ⟨#[]⟩ ⟨#[]⟩ ⟨#[]⟩ none 0 0 0 0).size ∧ zDc.size = (dcC 5 nm ⟨#[]⟩ ⟨#[]⟩ ⟨#[]⟩ ⟨#[]⟩ none 0 0 0 0).size ∧ ∀ v ∈ dcC 5 nm ⟨#[]⟩ ⟨#[]⟩ ⟨#[]⟩ ⟨#[]⟩ none 0 0 0 0, v.oneCell' = true) := ⟨xq3 _ _ _ _ _ _ _ _ _ _ _, rfl, by simp [Value.oneCell']⟩;go_enter Tryz.func65, Tryz.ntmps65
 go_upto_region 2 with (first | (refine xqn (by rfl) _ _ (by rfl) _ (by rfl) _ (by assumption) ?_) | (refine xqg (by rfl) _ _ _ (by rfl) _ _ _ (by rfl) (by rfl) (by assumption) ?_))
 clear x0 x1 HBd HUb;generalize ((w.alloc (.cells (dcC 5 nm ot nu va un A n c pl at1) 62)).alloc (.cells zDc 62)).alloc (.cells (dcC 5 nm ⟨#[]⟩ ⟨#[]⟩ ⟨#[]⟩ ⟨#[]⟩ none 0 0 0 0) 62) = w1 at *;obtain ⟨q_o, eo⟩ : ∃ g, g = w.heap.size + 1 + 1 := ⟨_, rfl⟩;obtain ⟨q_z, ez⟩ : ∃ g, g = w.heap.size + 1 := ⟨_, rfl⟩;obtain ⟨q_x, ex⟩ : ∃ g, g = w.heap.size := ⟨_, rfl⟩;rw [← eo] at h_ro ⊢;rw [← ez] at h_rz ⊢;rw [← ex] at h_rx ⊢;have hne : Hid (q_o ≠ q_x ∧ q_o ≠ q_z ∧ q_x ≠ q_z) := by refine ⟨?_, ?_, ?_⟩ <;> omega
 have hxx : Hid (w.heap.size ≤ q_x ∧ w.heap.size ≤ q_z ∧ w.heap.size ≤ q_o) := by refine ⟨?_, ?_, ?_⟩ <;> omega
 clear eo ez ex;have HX := hid h_rx;have HZ := hid h_rz;have HO := hid h_ro;have HB := hid bw;have k0 := h_rx.cell (k := 0) (v := .int .i64 5) rfl;clear h_rx h_rz h_ro bw;go_wp2_with fail
 refine xv1 12 [some 45, some 46, some 47, some 48, some 49, some 50, some 51, none, some 52, none, some 53, none] ?aF (fun wx wy => ((RowA wx q_x 62 (dcC 5 nm ot nu va un A n c pl at1) ∧ (∃ v6 : Value, ∃ v5 : Value, ∃ v7 : Value, RowA wx q_o 62 #[.int .i64 5, .string nm, .string ⟨#[]⟩, .string ⟨#[]⟩, .string ⟨#[]⟩, v5, v6, v7, .int .i64 0]) ∧ RowA wx q_z 62 zDc ∧ Below w.heap.size w wx) → (RowA wy q_x 62 (dcC 5 nm ot nu va un A n c pl at1) ∧ (∃ v6 : Value, ∃ v5 : Value, ∃ v7 : Value, RowA wy q_o 62 #[.int .i64 5, .string nm, .string ⟨#[]⟩, .string ⟨#[]⟩, .string ⟨#[]⟩, v5, v6, v7, .int .i64 0]) ∧ RowA wy q_z 62 zDc ∧ Below w.heap.size w wy)) ∧ (wx.cell? ⟨q_o, 6, none⟩ = some (.slice A n c) → wy.cell? ⟨q_o, 6, none⟩ = some (.slice A n c)) ∧ (wx.cell? ⟨q_o, 5, none⟩ = some (.string un) → wy.cell? ⟨q_o, 5, none⟩ = some (.string un)) ∧ (wx.cell? ⟨q_o, 7, none⟩ = some (.int .i64 pl) → wy.cell? ⟨q_o, 7, none⟩ = some (.int .i64 pl))) (fun wx => RowA wx q_x 62 (dcC 5 nm ot nu va un A n c pl at1) ∧ (∃ v6 : Value, ∃ v5 : Value, ∃ v7 : Value, RowA wx q_o 62 #[.int .i64 5, .string nm, .string ⟨#[]⟩, .string ⟨#[]⟩, .string ⟨#[]⟩, v5, v6, v7, .int .i64 0]) ∧ RowA wx q_z 62 zDc ∧ Below w.heap.size w wx) (fun k vv wx => match k with
  | 0 => vv = .pointer (some ⟨q_x, 6, none⟩)
  | 1 => vv = .slice A n c
  | 2 => vv = .pointer (some ⟨q_x, 5, none⟩)
  | 3 => vv = .string un
  | 4 => vv = .pointer (some ⟨q_x, 7, none⟩)
  | 5 => vv = .int .i64 pl
  | 6 => vv = .pointer (some ⟨q_o, 6, none⟩)
  | 7 => wx.cell? ⟨q_o, 6, none⟩ = some (.slice A n c)
  | 8 => vv = .pointer (some ⟨q_o, 5, none⟩)
  | 9 => wx.cell? ⟨q_o, 5, none⟩ = some (.string un)
  | 10 => vv = .pointer (some ⟨q_o, 7, none⟩)
  | _ => wx.cell? ⟨q_o, 7, none⟩ = some (.int .i64 pl))
  (by kernel_rfl) ?haF rfl (by kernel_rfl) (fun _ _ _ _ _ h => h) ?hSb ?hPb ?hS ?hop ?hfin
 case haF =>
  intro vals;simp only [xqx, dAt, Act.put, List.setIfInBounds_toArray, List.set_cons_zero, List.set_cons_succ];exact rfl
 case hSb => exact fun wx wy h k => h.1 k
 case hPb =>
  intro k v wa wb hb hS h
  match k, h with
  | 0, h => exact h
  | 1, h => exact h
  | 2, h => exact h
  | 3, h => exact h
  | 4, h => exact h
  | 5, h => exact h
  | 6, h => exact h
  | 7, h => exact hb.2.1 h
  | 8, h => exact h
  | 9, h => exact hb.2.2.1 h
  | 10, h => exact h
  | _ + 11, h => exact hb.2.2.2 h
 case hS => exact ⟨HX.out, ⟨_, _, _, HO.out⟩, HZ.out, HB.out.drew⟩
 case hop =>
  refine .cons (k := 0) ?_ (.cons (k := 1) ?_ (.cons (k := 2) ?_ (.cons (k := 3) ?_ (.cons (k := 4) ?_ (.cons (k := 5) ?_ (.cons (k := 6) ?_ (.cons (k := 7) ?_ (.cons (k := 8) ?_ (.cons (k := 9) ?_ (.cons (k := 10) ?_ (.cons (k := 11) ?_ (.nil))))))))))))
  all_goals intro vals wr hS hd KC hK
  all_goals (show Oper.wp _ _ _ _ _ _; dsimp only)
  · go_simp;refine hK _ _ rfl ⟨fun h => h, fun h => h, fun h => h, fun h => h⟩ (by first | rfl | simp)
  · have d0 : vals 0 = _ := hd 0 (by decide +kernel);rw [d0];have c0 := hS.1.cell (k := 6) (v := .slice A n c) rfl;go_simp;refine hK _ _ rfl ⟨fun h => h, fun h => h, fun h => h, fun h => h⟩ (by first | rfl | simp)
  · go_simp;refine hK _ _ rfl ⟨fun h => h, fun h => h, fun h => h, fun h => h⟩ (by first | rfl | simp)
  · have d0 : vals 2 = _ := hd 2 (by decide +kernel);rw [d0];have c0 := hS.1.cell (k := 5) (v := .string un) rfl;go_simp;refine hK _ _ rfl ⟨fun h => h, fun h => h, fun h => h, fun h => h⟩ (by first | rfl | simp)
  · go_simp;refine hK _ _ rfl ⟨fun h => h, fun h => h, fun h => h, fun h => h⟩ (by first | rfl | simp)
  · have d0 : vals 4 = _ := hd 4 (by decide +kernel);rw [d0];have c0 := hS.1.cell (k := 7) (v := .int .i64 pl) rfl;go_simp;refine hK _ _ rfl ⟨fun h => h, fun h => h, fun h => h, fun h => h⟩ (by first | rfl | simp)
  · go_simp;refine hK _ _ rfl ⟨fun h => h, fun h => h, fun h => h, fun h => h⟩ (by first | rfl | simp)
  · have d1 : vals 1 = _ := hd 1 (by decide +kernel);have d2 : vals 6 = _ := hd 6 (by decide +kernel);rw [d1, d2];obtain ⟨hsx, ⟨v6, v5, v7, hro⟩, hsz, hsb⟩ := id hS;have c0 := hro.cell (k := 6) (v := v6) rfl;have f0 := hro.free 6;go_simp
    refine hK _ _ rfl ⟨fun _ => ⟨hsx.far hne.out.1 _ _, ⟨_, _, _, (show RowA _ q_o 62 #[.int .i64 5, .string nm, .string ⟨#[]⟩, .string ⟨#[]⟩, .string ⟨#[]⟩, v5, .slice A n c, v7, .int .i64 0] from hro.set 6 (.slice A n c))⟩, hsz.far hne.out.2.1 _ _, xqt hsb hxx.out.2.2 _ _⟩, fun _ => (RowA.cell (show RowA _ q_o 62 #[.int .i64 5, .string nm, .string ⟨#[]⟩, .string ⟨#[]⟩, .string ⟨#[]⟩, v5, .slice A n c, v7, .int .i64 0] from hro.set 6 (.slice A n c)) (k := 6) rfl), fun h => by
     have h9 := hro.cell (k := 5) (v := v5) rfl;rw [h] at h9;injection h9 with h9
     subst h9;exact (RowA.cell (show RowA _ q_o 62 #[.int .i64 5, .string nm, .string ⟨#[]⟩, .string ⟨#[]⟩, .string ⟨#[]⟩, .string un, .slice A n c, v7, .int .i64 0] from hro.set 6 (.slice A n c)) (k := 5) rfl), fun h => by
     have h9 := hro.cell (k := 7) (v := v7) rfl;rw [h] at h9;injection h9 with h9
     subst h9
     exact (RowA.cell (show RowA _ q_o 62 #[.int .i64 5, .string nm, .string ⟨#[]⟩, .string ⟨#[]⟩, .string ⟨#[]⟩, v5, .slice A n c, .int .i64 pl, .int .i64 0] from hro.set 6 (.slice A n c)) (k := 7) rfl)⟩ ?_
    exact (RowA.cell (show RowA _ q_o 62 #[.int .i64 5, .string nm, .string ⟨#[]⟩, .string ⟨#[]⟩, .string ⟨#[]⟩, v5, .slice A n c, v7, .int .i64 0] from hro.set 6 (.slice A n c)) (k := 6) rfl)
  · go_simp;refine hK _ _ rfl ⟨fun h => h, fun h => h, fun h => h, fun h => h⟩ (by first | rfl | simp)
  · have d1 : vals 3 = _ := hd 3 (by decide +kernel);have d2 : vals 8 = _ := hd 8 (by decide +kernel);rw [d1, d2];obtain ⟨hsx, ⟨v6, v5, v7, hro⟩, hsz, hsb⟩ := id hS;have c0 := hro.cell (k := 5) (v := v5) rfl;have f0 := hro.free 5;go_simp
    refine hK _ _ rfl ⟨fun _ => ⟨hsx.far hne.out.1 _ _, ⟨_, _, _, (show RowA _ q_o 62 #[.int .i64 5, .string nm, .string ⟨#[]⟩, .string ⟨#[]⟩, .string ⟨#[]⟩, .string un, v6, v7, .int .i64 0] from hro.set 5 (.string un))⟩, hsz.far hne.out.2.1 _ _, xqt hsb hxx.out.2.2 _ _⟩, fun h => by
     have h9 := hro.cell (k := 6) (v := v6) rfl;rw [h] at h9;injection h9 with h9
     subst h9;exact (RowA.cell (show RowA _ q_o 62 #[.int .i64 5, .string nm, .string ⟨#[]⟩, .string ⟨#[]⟩, .string ⟨#[]⟩, .string un, .slice A n c, v7, .int .i64 0] from hro.set 5 (.string un)) (k := 6) rfl), fun _ => (RowA.cell (show RowA _ q_o 62 #[.int .i64 5, .string nm, .string ⟨#[]⟩, .string ⟨#[]⟩, .string ⟨#[]⟩, .string un, v6, v7, .int .i64 0] from hro.set 5 (.string un)) (k := 5) rfl), fun h => by
     have h9 := hro.cell (k := 7) (v := v7) rfl;rw [h] at h9;injection h9 with h9
     subst h9
     exact (RowA.cell (show RowA _ q_o 62 #[.int .i64 5, .string nm, .string ⟨#[]⟩, .string ⟨#[]⟩, .string ⟨#[]⟩, .string un, v6, .int .i64 pl, .int .i64 0] from hro.set 5 (.string un)) (k := 7) rfl)⟩ ?_
    exact (RowA.cell (show RowA _ q_o 62 #[.int .i64 5, .string nm, .string ⟨#[]⟩, .string ⟨#[]⟩, .string ⟨#[]⟩, .string un, v6, v7, .int .i64 0] from hro.set 5 (.string un)) (k := 5) rfl)
  · go_simp;refine hK _ _ rfl ⟨fun h => h, fun h => h, fun h => h, fun h => h⟩ (by first | rfl | simp)
  · have d1 : vals 5 = _ := hd 5 (by decide +kernel);have d2 : vals 10 = _ := hd 10 (by decide +kernel);rw [d1, d2];obtain ⟨hsx, ⟨v6, v5, v7, hro⟩, hsz, hsb⟩ := id hS;have c0 := hro.cell (k := 7) (v := v7) rfl;have f0 := hro.free 7;go_simp
    refine hK _ _ rfl ⟨fun _ => ⟨hsx.far hne.out.1 _ _, ⟨_, _, _, (show RowA _ q_o 62 #[.int .i64 5, .string nm, .string ⟨#[]⟩, .string ⟨#[]⟩, .string ⟨#[]⟩, v5, v6, .int .i64 pl, .int .i64 0] from hro.set 7 (.int .i64 pl))⟩, hsz.far hne.out.2.1 _ _, xqt hsb hxx.out.2.2 _ _⟩, fun h => by
     have h9 := hro.cell (k := 6) (v := v6) rfl;rw [h] at h9;injection h9 with h9
     subst h9;exact (RowA.cell (show RowA _ q_o 62 #[.int .i64 5, .string nm, .string ⟨#[]⟩, .string ⟨#[]⟩, .string ⟨#[]⟩, v5, .slice A n c, .int .i64 pl, .int .i64 0] from hro.set 7 (.int .i64 pl)) (k := 6) rfl), fun h => by
     have h9 := hro.cell (k := 5) (v := v5) rfl;rw [h] at h9;injection h9 with h9
     subst h9
     exact (RowA.cell (show RowA _ q_o 62 #[.int .i64 5, .string nm, .string ⟨#[]⟩, .string ⟨#[]⟩, .string ⟨#[]⟩, .string un, v6, .int .i64 pl, .int .i64 0] from hro.set 7 (.int .i64 pl)) (k := 5) rfl), fun _ => (RowA.cell (show RowA _ q_o 62 #[.int .i64 5, .string nm, .string ⟨#[]⟩, .string ⟨#[]⟩, .string ⟨#[]⟩, v5, v6, .int .i64 pl, .int .i64 0] from hro.set 7 (.int .i64 pl)) (k := 7) rfl)⟩ ?_
    exact (RowA.cell (show RowA _ q_o 62 #[.int .i64 5, .string nm, .string ⟨#[]⟩, .string ⟨#[]⟩, .string ⟨#[]⟩, v5, v6, .int .i64 pl, .int .i64 0] from hro.set 7 (.int .i64 pl)) (k := 7) rfl)
 case hfin =>
  intro vals wr hS hP;obtain ⟨h_rx2, ⟨v6, v5, v7, h_ro2⟩, h_rz2, hb2⟩ := hS;have p6 : wr.cell? ⟨q_o, 6, none⟩ = some (.slice A n c) := hP 7 (by decide);have r6 := h_ro2.cell (k := 6) (v := v6) rfl;rw [p6] at r6;injection r6 with r6
  subst r6;have p5 : wr.cell? ⟨q_o, 5, none⟩ = some (.string un) := hP 9 (by decide);have r5 := h_ro2.cell (k := 5) (v := v5) rfl;rw [p5] at r5;injection r5 with r5
  subst r5;have p7 : wr.cell? ⟨q_o, 7, none⟩ = some (.int .i64 pl) := hP 11 (by decide);have r7 := h_ro2.cell (k := 7) (v := v7) rfl;rw [p7] at r7;injection r7 with r7
  subst r7;clear HX HZ HO HB hP h_rx2 p6 p5 p7;refine wpAny_done (by kernel_rfl) ?_ _
  try dsimp only [Act.put]
  generalize wr = w2 at *;have HIo : Hid (InV w2 q_o 0 (dcC 5 nm ⟨#[]⟩ ⟨#[]⟩ ⟨#[]⟩ un A n c pl 0)) := h_ro2.inV;have HMo : Hid (xq7 Tryz.prog 62 (dcC 5 nm ⟨#[]⟩ ⟨#[]⟩ ⟨#[]⟩ un A n c pl 0).size) := xq3 _ _ _ _ _ _ _ _ _ _ _;have HZw : Hid (RowA w2 q_z 62 zDc) := h_rz2;have HU : Hid (xq7 Tryz.prog 62 (dcC 5 nm ⟨#[]⟩ ⟨#[]⟩ ⟨#[]⟩ un A n c pl 0).size ∧ zDc.size = (dcC 5 nm ⟨#[]⟩ ⟨#[]⟩ ⟨#[]⟩ un A n c pl 0).size ∧ ∀ v ∈ dcC 5 nm ⟨#[]⟩ ⟨#[]⟩ ⟨#[]⟩ un A n c pl 0, v.oneCell' = true) := ⟨xq3 _ _ _ _ _ _ _ _ _ _ _, rfl, by simp [Value.oneCell']⟩;have HR : Hid (RowA (w2.setRow q_z (dcC 5 nm ⟨#[]⟩ ⟨#[]⟩ ⟨#[]⟩ un A n c pl 0)) q_z 62 (dcC 5 nm ⟨#[]⟩ ⟨#[]⟩ ⟨#[]⟩ un A n c pl 0)) := HZw.out.fill;have HE : Hid (Below w.heap.size w (w2.setRow q_z (dcC 5 nm ⟨#[]⟩ ⟨#[]⟩ ⟨#[]⟩ un A n c pl 0))) := xqv hb2 hxx.out.2.1 _;clear h_ro2 h_rz2 hb2;go_wp2_with (first | (refine xqf (by rfl) _ _ (by rfl) _ _ (by rfl) _ (by assumption) (by assumption) ?_) | (refine xqi (by rfl) _ _ _ (by rfl) _ (by rfl) _ (by rfl) _ _ HZw HU ?_));refine bodyPost_ret (results_cell_row rfl _ _ _ 62 (dcC 5 nm ⟨#[]⟩ ⟨#[]⟩ ⟨#[]⟩ un A n c pl 0) (0, 0) _ rfl HR.out Tryz.underlying62 rfl yq7) rfl ?_;exact ⟨rfl, HE.out⟩
end Go.Proofs.YtannifhcjcbkcaaGreatDoor
