/- Part 7 of the texts that the statements of this seat lean on: mathematics, and what functions answer, as contracts over memory; each part says its own conditions. -/
import Derived.Test.YtheaepceghnkpaaDoorM6
import Derived.BigQuiet
import Derived.Deep.QuietTactic
import Derived.Test.YtheaepceghnkpaaDoorShelf
import Derived.Shelf.Strconv.AtoiAll
import Derived.Lib.AtoiTie
/- What the reader of package parse does with a node. Condition: a reader that reads in memory. -/
namespace Go.Proofs.YtheaepceghnkpaaDoor
open Go.RowKit Limb
set_option linter.unusedVariables false
section
variable {w : World} {B q en : Nat} {L : Lim} {st : St}
theorem wp_buildSliceM {P : Program} {o : Oper} {a : Act} {w : World} {K : Act → World → Prop} {Q : Exit → Act → World → Prop} (ty : TypeId) (len : Nat) (parts : Array (Nat × Operand)) (ho : o.op = .buildSlice ty len parts) (ps : List (Nat × Value)) (hp : parts.toList.map (fun p => (p.1, a.eval p.2)) = ps) (v : Value) (w' : World) (hr : Hid ((Instr.buildSlice ty len ps.toArray).run P w = .ok v w'))
 (h : K (a.put o.dst v) w') : o.wp P a w K Q := by
 have e : (parts.map fun (i, x) => (i, a.eval x)) = ps.toArray := by
  rw [← hp]
  apply Array.ext'
  simp
 unfold Oper.wp execOp
 simp only [ho, e, hr.out, Sem.run_bind, Sem.run_pure, Result.andThen_ok]
 exact h
theorem slice_node (x : Nd) (W : World) : (Instr.buildSlice 45 1 ([(0, .agg (ndV x))] : List (Nat × Value)).toArray).run Tryd.prog W = .ok (.slice (some ⟨W.heap.size, 0, none⟩) 1 1) (W.alloc (.cells (ndV x) 51)) := by kernel_rfl
theorem Kn.grown {B q m d : Nat} {C : Option Addr} {xs : List Value} {w w' : World} (h : OwnR w B 51 7 C m d xs) (hg : w.grownBy w' (Value.ownBlock (.slice C m d))) : Kn B q w w' :=
 ⟨hg.os, hg.tape, hg.output, hg.size, fun i hi hq hn => hg.block i hi fun e => by
   rcases h.2 with ⟨hv, _⟩ | ⟨g, cap, cur, hv, hB, hgc, _⟩
   · rw [hv] at e; cases e
   · rw [hv] at e
     have e3 : i = g := by injection e
     subst e3
     exact hn hB cur (0, 0) hgc⟩
def NoR (k : Nat) (C : Option Addr) (m d : Nat) (i : Nat) (wx wy : World) : Prop := if i = k then wx.grownBy wy (Value.ownBlock (.slice C m d)) else Below wx.heap.size wx wy
theorem NoR.of {k : Nat} {C : Option Addr} {m d i : Nat} {wx wy : World} (h : Below wx.heap.size wx wy) (hi : i ≠ k) : NoR k C m d i wx wy := by unfold NoR; rw [if_neg hi]; exact h
theorem NoR.row {k : Nat} {C : Option Addr} {m d i : Nat} {wx wy : World} (h : NoR k C m d i wx wy) {g : Nat} {T : TypeId} {V : Array Value} (r : RowA wx g T V) (hg : Value.ownBlock (.slice C m d) ≠ some g) : RowA wy g T V := by
 unfold NoR at h
 split at h
 · exact r.grown h hg
 · exact r.below h
def NoS (wS : World) (B q qx : Nat) (V X : Array Value) (C : Option Addr) (m d : Nat) (xs : List Value) (l : Nat → Bool) (wx : World) : Prop :=
 RowA wx q 56 V ∧ RowA wx qx 51 X ∧ wS.heap.size ≤ wx.heap.size ∧ Kn B q wS wx ∧ (l 7 = false → OwnR wx B 51 7 C m d xs)
theorem NoS.step {wS : World} {B q qx : Nat} {V X : Array Value} {C : Option Addr} {m d i : Nat} {xs : List Value} {l : Nat → Bool} {wx wy : World} (hq : Value.ownBlock (.slice C m d) ≠ some q) (hqx : Value.ownBlock (.slice C m d) ≠ some qx) (hl : l i = false) (hR : NoR 7 C m d i wx wy) (h : NoS wS B q qx V X C m d xs l wx) :
 NoS wS B q qx V X C m d xs (fun j => if j = i then true else l j) wy := by
 obtain ⟨h1, h2, h3, h4, h5⟩ := h
 by_cases hi : i = 7
 · subst hi
   have ho := h5 hl
   have hg := hR
   unfold NoR at hg
   rw [if_pos rfl] at hg
   exact ⟨h1.grown hg hq, h2.grown hg hqx, Nat.le_trans h3 hg.size, h4.trans (Kn.grown ho hg), fun e => by dsimp only at e; rw [if_pos rfl] at e; cases e⟩
 · have hg := hR
   unfold NoR at hg
   rw [if_neg hi] at hg
   exact ⟨h1.below hg, h2.below hg, Nat.le_trans h3 hg.size, h4.trans (Kn.below hg), fun e => by dsimp only at e; rw [if_neg (Ne.symm hi)] at e; exact (h5 e).below hg⟩
theorem rdC_nodes {w : World} {q en en2 : Nat} {L L2 : Lim} {A A2 C C2 : Option Addr} {n n2 c c2 m m2 d d2 : Nat} {E E2 P P2 mk mk2 op op2 : Int} (h : RowA w q 56 (rdC A n c en L E P C m d mk op)) (k : RowA w q 56 (rdC A2 n2 c2 en2 L2 E2 P2 C2 m2 d2 mk2 op2)) : C2 = C ∧ m2 = m ∧ d2 = d := by
 unfold RowA at h k
 rw [h] at k
 injection k with k
 injection k with k _ _
 have e := congrArg (fun V : Array Value => V[8]?) k
 simp only [List.getElem?_toArray, List.getElem?_cons_succ, List.getElem?_cons_zero, Option.some.injEq] at e
 injection e with e1 e2 e3
 exact ⟨e1.symm, e2.symm, e3.symm⟩
theorem nodP_mad (L : Lim) (p : Int) (st : St) : (nodP L p st).mad = st.mad := by
 unfold nodP failS
 split
 · split <;> rfl
 · rfl
theorem nodP_ts (L : Lim) (p : Int) (st : St) : (nodP L p st).ts = st.ts := by
 unfold nodP failS
 split
 · split <;> rfl
 · rfl
theorem nodP_E {L : Lim} {p : Int} {st : St} (h : (nodP L p st).E = 0) : st.E = 0 := by
 unfold nodP failS at h
 split at h
 · split at h
   · cases h
   · exact h
 · exact h
set_option maxHeartbeats 4000000 in
set_option maxRecDepth 100000 in
theorem pNode_c (h : RdW w B q en L st) (hB : B ≤ w.heap.size) (hfit : st.ts.length ≤ 1000000 ∧ st.mad ≤ 1000000) (x x2 : Nd) (hxp : x2.p = x.p) (hx : st.E = 0 → x = x2) :
 Calls Tryd.prog 58 #[.pointer (some ⟨q, 0, none⟩), .agg (ndV x)] w fun e w' => e = .returned (.tuple #[]) ∧ RdW w' B q en L (nodS L x2 st) ∧ Kn B q w w' := by
 obtain ⟨A0, n0, c0, C, m, d, ts0, r1, r2, r3, r4, r5, r6, r7, r8⟩ := id h
 have hox : Hid (Value.ownBlock (.slice C m d) ≠ some w.heap.size) := fun e => by have := (r3.2.lt _ e).2; omega
 have hlt := h.lt
 have bn := below_new w (.cells (ndV x) 51)
 have HX := rowA_new w 51 (ndV x)
 have H1 := Lib.hid (h.below bn)
 have K1 := Lib.hid (Kn.below (B := B) (q := q) bn)
 have R1 := r1.below bn
 obtain ⟨qx, hqx⟩ : ∃ g, g = w.heap.size := ⟨_, rfl⟩
 rw [← hqx] at HX hox
 have Hqx := Lib.hid hqx
 have Hlt := Lib.hid hlt
 have HBw := Lib.hid hB
 have HFt := Lib.hid hfit
 have HX := Lib.hid HX
 have HU := Lib.hid (fitsNd x x)
 have R1 := Lib.hid R1
 have HE0 := Lib.hid hx
 clear h bn hlt hB hfit r1 r2 r3 r4 r5 r6 r7 r8 hx
 go_enter Tryd.func58, Tryd.ntmps58
 go_wp2_with fail
 rw [← hqx]
 clear hqx
 generalize w.alloc (.cells (ndV x) 51) = w1 at *
 have k9 := R1.out.cell (k := 9) (v := .int .i64 (st.mad : Int)) rfl
 have k4 := R1.out.cell (k := 4) (v := .int .i64 (L.nodes : Int)) rfl
 by_cases hmk : st.mad = L.nodes
 · have e1 : ((st.mad : Int) == (L.nodes : Int)) = true := by rw [hmk]; simp
   have y9 := R1.out.drew.cell (k := 9) (v := .int .i64 (st.mad : Int)) rfl
   have kx := HX.out.cell (k := 6) (v := .int .i64 x.p) rfl
   have hP : Hid (nodP L x.p st = failS 2 x.p st) := by show _ = _; unfold nodP; rw [if_pos hmk]
   clear hmk
   go_quiet (fail)
   have bq := below_drewN (Below.refl w1.heap.size w1) nq
   have H2 := Lib.hid (H1.out.below bq)
   have K2 := Lib.hid (K1.out.trans (Kn.below (B := B) (q := q) bq))
   have R2 := Lib.hid (R1.out.below bq)
   have X2 := Lib.hid (HX.out.below bq)
   generalize w1.drewN nq = w2 at *
   have kx := X2.out.cell (k := 6) (v := .int .i64 x.p) rfl
   clear k9 k4 y9 bq H1 K1 R1 HX
   go_wp2_with fail
   refine (pFail_x H2.out 2 x.p (by decide)).mono ?_
   rintro e wB ⟨rfl, hS, hg, hx9⟩
   obtain ⟨A5, n5, c5, E5, P5, hRB⟩ := hx9 _ _ _ _ _ _ _ _ _ _ R2.out
   have HS : Hid (RdW wB B q en L (nodP L x.p st)) := by show RdW _ _ _ _ _ _; rw [hP.out]; exact hS
   have KB := Lib.hid (K2.out.trans (Kn.of (B := B) hg))
   have HXb : Hid (RowA wB qx 51 (ndV x)) := X2.out.grown hg (fun e => by injection e with e; have := Hqx.out; have := Hlt.out; omega)
   have RB := Lib.hid hRB
   clear hS hg hx9 hRB H2 K2 R2 X2 kx hP
   obtain ⟨A, n, c, C2, m2, d2, ts, h1, h2, h3, h4, h5, h6, h7, h8⟩ := id HS.out
   obtain ⟨rfl, rfl, rfl⟩ := rdC_nodes h1 RB.out
   have hmd : (nodP L x.p st).mad = st.mad := nodP_mad L x.p st
   rw [hmd] at h1
   generalize hE9 : (nodP L x.p st).E = E9 at h1 h5
   generalize hP9 : (nodP L x.p st).P = P9 at h1
   generalize ho9 : (nodP L x.p st).op = op9 at h1
   have hm6 : Hid (m ≤ 1000000) := by show _ ≤ _; rw [h3.1, h4, (nodP_ts L x.p st)]; exact HFt.out.1
   have hk6 : (st.mad : Int) ≤ 1000000 := by have := HFt.out.2; omega
   have hoq := Lib.hid (h3.2.differ h1 tr_ne_tn)
   have k9 := h1.cell (k := 9) (v := .int .i64 (st.mad : Int)) rfl
   have f9 := h1.free 9
   have HR := Lib.hid (h1.set 9 (.int .i64 ((st.mad : Int) + 1)))
   have hg9 := grown_set wB q 9 (.int .i64 ((st.mad : Int) + 1))
   have HK := Lib.hid (KB.out.trans (Kn.of hg9))
   have HOt := Lib.hid (h3.q h1 hg9)
   have HO := Lib.hid HOt.out.2
   have HX2 := Lib.hid (HXb.out.far (show q ≠ qx by have := Hqx.out; have := Hlt.out; omega) 9 (.int .i64 ((st.mad : Int) + 1)))
   have hBS : Hid (B ≤ (wB.setCell ⟨q, 9, none⟩ (.int .i64 ((st.mad : Int) + 1))).heap.size) := by show _ ≤ _; rw [World.size_setCell]; have := KB.out.size; have := HBw.out; omega
   have HTok := Lib.hid (h2.kn (Kn.of (B := B) hg9) h1)
   have HTb := Lib.hid (h7.kn (Kn.of hg9) h6)
   have H45 := Lib.hid (And.intro h4 h5)
   have H68 := Lib.hid (And.intro h6 h8)
   have HEP : Hid ((nodP L x.p st).E = E9 ∧ (nodP L x.p st).P = P9 ∧ (nodP L x.p st).op = op9) := ⟨hE9, hP9, ho9⟩
   have Hmd := Lib.hid hmd
   have h0q : (0 : Int) ≤ (st.mad : Int) := by omega
   clear h1 h2 h3 h4 h5 h6 h7 h8 hg9 HS KB HXb RB hE9 hP9 ho9 hmd
   go_wp2_with fail
   generalize wB.setCell ⟨q, 9, none⟩ (.int .i64 ((st.mad : Int) + 1)) = wS at *
   clear k9 f9 h0q hk6
   refine region_freeS 10 1 [some 25, some 26, some 27, some 28, some 29, some 30, some 31, some 32, some 33, some 34] ?aFq1 (NoR 7 C m d) (NoS wS B q qx (rdC A n c en L E9 P9 C m d ((st.mad : Int) + 1) (op9 : Int)) (ndV x) C m d (ndCells ts)) (fun k vv wx => match k with
    | 0 => vv = .pointer (some ⟨q, 0, none⟩)
    | 1 => vv = .pointer (some ⟨q, 0, none⟩)
    | 2 => vv = .pointer (some ⟨q, 0, none⟩)
    | 3 => vv = .pointer (some ⟨q, 8, none⟩)
    | 4 => vv = .slice C m d
    | 5 => vv = .agg (ndV x)
    | 6 => ∃ g, vv = .slice (some ⟨g, 0, none⟩) 1 1 ∧ RowA wx g 51 (ndV x) ∧ wS.heap.size ≤ g
    | 7 => ∃ A2 c2, vv = .slice A2 (m + 1) c2 ∧ OwnR wx B 51 7 A2 (m + 1) c2 (ndCells ts ++ (ndV x).toList)
    | 8 => vv = .pointer (some ⟨q, 0, none⟩)
    | _ => vv = .pointer (some ⟨q, 8, none⟩))
    (by kernel_rfl) ?haFq1 rfl (by kernel_rfl) (by kernel_rfl) (fun _ _ _ _ _ h => h) ?hSbq1 ?hPbq1 ?hSq1 ?hopq1 ?hfinq1
   case haFq1 =>
    intro vals
    simp only [fillAll, dAt, Act.put, List.setIfInBounds_toArray, List.set_cons_zero, List.set_cons_succ]
    exact rfl
   case hSbq1 => exact fun i l wx wy hi hl hR h => NoS.step hoq.out hox.out hl hR h
   case hPbq1 =>
    intro k j v wa wb hk hkj hb h
    match j, h with
    | 0, h => exact h
    | 1, h => exact h
    | 2, h => exact h
    | 3, h => exact h
    | 4, h => exact h
    | 5, h => exact h
    | 6, ⟨g, e1, g1, g2⟩ => exact ⟨g, e1, hb.row g1 (fun e => by have := (HO.out.lt g e).2; omega), g2⟩
    | 7, ⟨A2, c2, e1, g1⟩ =>
     unfold NoR at hb
     rw [if_neg (by omega)] at hb
     exact ⟨A2, c2, e1, g1.below hb⟩
    | 8, h => exact h
    | _ + 9, h => exact h
   case hSq1 => exact ⟨HR.out, HX2.out, Nat.le_refl _, Kn.below (Below.refl _ _).drew, fun _ => HO.out⟩
   case hopq1 =>
    refine .cons (k := 0) ?_ (.cons (k := 1) ?_ (.cons (k := 2) ?_ (.cons (k := 3) ?_ (.cons (k := 4) ?_ (.cons (k := 5) ?_ (.cons (k := 6) ?_ (.cons (k := 7) ?_ (.cons (k := 8) ?_ (.cons (k := 9) ?_ (.nil))))))))))
    all_goals intro vals wr l hl hS hd KC hKx
    all_goals (show Oper.wp _ _ _ _ _ _; dsimp only)
    · go_simp
      refine hKx _ _ rfl (NoR.of (Below.refl _ _) (by decide)) (by first | rfl | simp)
    · go_simp
      refine hKx _ _ rfl (NoR.of (Below.refl _ _) (by decide)) (by first | rfl | simp)
    · have d1 : vals 1 = _ := hd 1 (by decide +kernel)
      rw [d1]
      go_simp
      refine hKx _ _ rfl (NoR.of (Below.refl _ _) (by decide)) (by first | rfl | simp)
    · have d2 : vals 2 = _ := hd 2 (by decide +kernel)
      rw [d2]
      go_simp
      refine hKx _ _ rfl (NoR.of (Below.refl _ _) (by decide)) (by first | rfl | simp)
    · have d3 : vals 3 = _ := hd 3 (by decide +kernel)
      rw [d3]
      have z0 := hS.1.cell (k := 8) rfl
      go_simp
      refine hKx _ _ rfl (NoR.of (Below.refl _ _) (by decide)) (by first | rfl | simp)
    · refine wp_loadV 51 _ rfl qx 0 rfl (ndV x) (Lib.hid hS.2.1.inV) (Lib.hid (manyN x)) ?_
      refine hKx _ _ rfl (NoR.of (Below.refl _ _) (by decide)) (by first | rfl | simp)
    · have d5 : vals 5 = _ := hd 5 (by decide +kernel)
      rw [d5]
      refine wp_buildSliceM _ _ _ rfl _ (by rfl) _ _ (Lib.hid (slice_node x wr)) ?_
      refine hKx _ _ rfl (NoR.of (below_new _ _) (by decide)) ⟨_, rfl, rowA_new wr _ _, hS.2.2.1⟩
    · have d4 : vals 4 = _ := hd 4 (by decide +kernel)
      obtain ⟨g, d6, g1, g2⟩ := hd 6 (by decide +kernel)
      rw [d4, d6]
      have HOx := Lib.hid (hS.2.2.2.2 hl)
      have HYx : Hid (RowA wr g 51 (ndV x) ∧ (ndV x).size = 7 ∧ ∀ v ∈ ndV x, v.oneCell' = true) := ⟨g1, rfl, ndV_one x⟩
      have HEx : Hid (m ≤ 1000000 ∧ B ≤ wr.heap.size) := ⟨hm6.out, Nat.le_trans hBS.out hS.2.2.1⟩
      refine wp_append_one _ _ 45 rfl B 51 7 nds_elem C m d (ndCells ts) rfl HOx g rfl 51 (ndV x) HYx HEx ?_
      intro A2 c2 w2 hO2 hg2
      refine hKx _ _ rfl (by unfold NoR; rw [if_pos rfl]; exact hg2.out) ⟨A2, c2, rfl, hO2.out⟩
    · have d0 : vals 0 = _ := hd 0 (by decide +kernel)
      rw [d0]
      go_simp
      refine hKx _ _ rfl (NoR.of (Below.refl _ _) (by decide)) (by first | rfl | simp)
    · have d8 : vals 8 = _ := hd 8 (by decide +kernel)
      rw [d8]
      go_simp
      refine hKx _ _ rfl (NoR.of (Below.refl _ _) (by decide)) (by first | rfl | simp)
   case hfinq1 =>
    intro vals wr l hl hS hP
    obtain ⟨A2, c2, ez_7, hO7⟩ := hP 7 (by decide)
    have ez_9 : vals 9 = _ := hP 9 (by decide)
    have c0x := hS.1.cell (k := 8) rfl
    have f0x := hS.1.free 8
    have hR2 := Lib.hid (hS.1.set 8 (.slice A2 (m + 1) c2))
    have hK2 := Lib.hid (hS.2.2.2.1.trans (Kn.of (grown_set wr q 8 (.slice A2 (m + 1) c2))))
    have hO2 := Lib.hid (hO7.over (grown_set wr q 8 (.slice A2 (m + 1) c2)) (fun g e => by cases e; exact hO7.differ hS.1 tr_ne_tn))
    clear hS hP hO7 hl
    try dsimp only
    rw [ez_7, ez_9]
    clear ez_7 ez_9
    refine wpAny_ready (rs := [10]) (by kernel_rfl) (by simp) (AllReady.cons rfl (fun KC hKC => ?_) AllReady.nil)
    go_simp
    refine hKC _ _ ?_
    clear hKC KC c0x f0x
    refine wpAny_done (by kernel_rfl) ?_ _
    generalize wr.setCell ⟨q, 8, none⟩ (.slice A2 (m + 1) c2) = wN at *
    have hEst : (addS x2 (nodP L x.p st)).E = 0 → st.E = 0 := fun e => nodP_E e
    have hst : nodS L x2 st = addS x2 (nodP L x.p st) := by unfold nodS; rw [hxp]
    have hK3 := HK.out.trans hK2.out
    have hfin : RdW wN B q en L (nodS L x2 st) := by
     rw [hst]
     refine ⟨A, n, c, A2, m + 1, c2, ts ++ [x], ?_, ?_, ⟨?_, ?_⟩, ?_, ?_, H68.out.1, ?_, H68.out.2⟩
     · have h9 := hR2.out
       show RowA _ _ _ (rdC A n c en L (nodP L x.p st).E (nodP L x.p st).P A2 (m + 1) c2 (((nodP L x.p st).mad + 1 : Nat) : Int) (((nodP L x.p st).op : Nat) : Int))
       rw [HEP.out.1, HEP.out.2.1, HEP.out.2.2, Hmd.out]
       exact h9
     · exact HTok.out.kn hK2.out HR.out
     · rw [List.length_append, ← HOt.out.1]; rfl
     · rw [ndCells_snoc]; exact hO2.out
     · show _ = ((nodP L x.p st).ts ++ [x2]).length
       rw [List.length_append, List.length_append, H45.out.1]; rfl
     · intro e
       have e2 : E9 = 0 := HEP.out.1.symm.trans e
       show _ = (nodP L x.p st).ts ++ [x2]
       rw [H45.out.2 e2, HE0.out (hEst e)]
     · exact HTb.out.kn hK2.out H68.out.1
    go_wp2
    go_end0
    exact ⟨rfl, hfin, hK3⟩
 · have e1 : ((st.mad : Int) == (L.nodes : Int)) = false := by rw [beq_eq_false_iff_ne]; omega
   have hP : Hid (nodP L x.p st = st) := by show _ = _; unfold nodP; rw [if_neg hmk]
   clear hmk
   go_quiet (fail)
   have bq := below_drewN (Below.refl w1.heap.size w1) nq
   have HS : Hid (RdW (w1.drewN nq) B q en L (nodP L x.p st)) := by show RdW _ _ _ _ _ _; rw [hP.out]; exact H1.out.below bq
   have KB := Lib.hid (K1.out.trans (Kn.below (B := B) (q := q) bq))
   have RB := Lib.hid (R1.out.below bq)
   have HXb := Lib.hid (HX.out.below bq)
   generalize w1.drewN nq = wB at *
   clear k9 k4 bq H1 K1 R1 HX hP
   obtain ⟨A, n, c, C2, m2, d2, ts, h1, h2, h3, h4, h5, h6, h7, h8⟩ := id HS.out
   obtain ⟨rfl, rfl, rfl⟩ := rdC_nodes h1 RB.out
   have hmd : (nodP L x.p st).mad = st.mad := nodP_mad L x.p st
   rw [hmd] at h1
   generalize hE9 : (nodP L x.p st).E = E9 at h1 h5
   generalize hP9 : (nodP L x.p st).P = P9 at h1
   generalize ho9 : (nodP L x.p st).op = op9 at h1
   have hm6 : Hid (m ≤ 1000000) := by show _ ≤ _; rw [h3.1, h4, (nodP_ts L x.p st)]; exact HFt.out.1
   have hk6 : (st.mad : Int) ≤ 1000000 := by have := HFt.out.2; omega
   have hoq := Lib.hid (h3.2.differ h1 tr_ne_tn)
   have k9 := h1.cell (k := 9) (v := .int .i64 (st.mad : Int)) rfl
   have f9 := h1.free 9
   have HR := Lib.hid (h1.set 9 (.int .i64 ((st.mad : Int) + 1)))
   have hg9 := grown_set wB q 9 (.int .i64 ((st.mad : Int) + 1))
   have HK := Lib.hid (KB.out.trans (Kn.of hg9))
   have HOt := Lib.hid (h3.q h1 hg9)
   have HO := Lib.hid HOt.out.2
   have HX2 := Lib.hid (HXb.out.far (show q ≠ qx by have := Hqx.out; have := Hlt.out; omega) 9 (.int .i64 ((st.mad : Int) + 1)))
   have hBS : Hid (B ≤ (wB.setCell ⟨q, 9, none⟩ (.int .i64 ((st.mad : Int) + 1))).heap.size) := by show _ ≤ _; rw [World.size_setCell]; have := KB.out.size; have := HBw.out; omega
   have HTok := Lib.hid (h2.kn (Kn.of (B := B) hg9) h1)
   have HTb := Lib.hid (h7.kn (Kn.of hg9) h6)
   have H45 := Lib.hid (And.intro h4 h5)
   have H68 := Lib.hid (And.intro h6 h8)
   have HEP : Hid ((nodP L x.p st).E = E9 ∧ (nodP L x.p st).P = P9 ∧ (nodP L x.p st).op = op9) := ⟨hE9, hP9, ho9⟩
   have Hmd := Lib.hid hmd
   have h0q : (0 : Int) ≤ (st.mad : Int) := by omega
   clear h1 h2 h3 h4 h5 h6 h7 h8 hg9 HS KB HXb RB hE9 hP9 ho9 hmd
   go_wp2_with fail
   generalize wB.setCell ⟨q, 9, none⟩ (.int .i64 ((st.mad : Int) + 1)) = wS at *
   clear k9 f9 h0q hk6
   refine region_freeS 10 1 [some 25, some 26, some 27, some 28, some 29, some 30, some 31, some 32, some 33, some 34] ?aFq0 (NoR 7 C m d) (NoS wS B q qx (rdC A n c en L E9 P9 C m d ((st.mad : Int) + 1) (op9 : Int)) (ndV x) C m d (ndCells ts)) (fun k vv wx => match k with
    | 0 => vv = .pointer (some ⟨q, 0, none⟩)
    | 1 => vv = .pointer (some ⟨q, 0, none⟩)
    | 2 => vv = .pointer (some ⟨q, 0, none⟩)
    | 3 => vv = .pointer (some ⟨q, 8, none⟩)
    | 4 => vv = .slice C m d
    | 5 => vv = .agg (ndV x)
    | 6 => ∃ g, vv = .slice (some ⟨g, 0, none⟩) 1 1 ∧ RowA wx g 51 (ndV x) ∧ wS.heap.size ≤ g
    | 7 => ∃ A2 c2, vv = .slice A2 (m + 1) c2 ∧ OwnR wx B 51 7 A2 (m + 1) c2 (ndCells ts ++ (ndV x).toList)
    | 8 => vv = .pointer (some ⟨q, 0, none⟩)
    | _ => vv = .pointer (some ⟨q, 8, none⟩))
    (by kernel_rfl) ?haFq0 rfl (by kernel_rfl) (by kernel_rfl) (fun _ _ _ _ _ h => h) ?hSbq0 ?hPbq0 ?hSq0 ?hopq0 ?hfinq0
   case haFq0 =>
    intro vals
    simp only [fillAll, dAt, Act.put, List.setIfInBounds_toArray, List.set_cons_zero, List.set_cons_succ]
    exact rfl
   case hSbq0 => exact fun i l wx wy hi hl hR h => NoS.step hoq.out hox.out hl hR h
   case hPbq0 =>
    intro k j v wa wb hk hkj hb h
    match j, h with
    | 0, h => exact h
    | 1, h => exact h
    | 2, h => exact h
    | 3, h => exact h
    | 4, h => exact h
    | 5, h => exact h
    | 6, ⟨g, e1, g1, g2⟩ => exact ⟨g, e1, hb.row g1 (fun e => by have := (HO.out.lt g e).2; omega), g2⟩
    | 7, ⟨A2, c2, e1, g1⟩ =>
     unfold NoR at hb
     rw [if_neg (by omega)] at hb
     exact ⟨A2, c2, e1, g1.below hb⟩
    | 8, h => exact h
    | _ + 9, h => exact h
   case hSq0 => exact ⟨HR.out, HX2.out, Nat.le_refl _, Kn.below (Below.refl _ _).drew, fun _ => HO.out⟩
   case hopq0 =>
    refine .cons (k := 0) ?_ (.cons (k := 1) ?_ (.cons (k := 2) ?_ (.cons (k := 3) ?_ (.cons (k := 4) ?_ (.cons (k := 5) ?_ (.cons (k := 6) ?_ (.cons (k := 7) ?_ (.cons (k := 8) ?_ (.cons (k := 9) ?_ (.nil))))))))))
    all_goals intro vals wr l hl hS hd KC hKx
    all_goals (show Oper.wp _ _ _ _ _ _; dsimp only)
    · go_simp
      refine hKx _ _ rfl (NoR.of (Below.refl _ _) (by decide)) (by first | rfl | simp)
    · go_simp
      refine hKx _ _ rfl (NoR.of (Below.refl _ _) (by decide)) (by first | rfl | simp)
    · have d1 : vals 1 = _ := hd 1 (by decide +kernel)
      rw [d1]
      go_simp
      refine hKx _ _ rfl (NoR.of (Below.refl _ _) (by decide)) (by first | rfl | simp)
    · have d2 : vals 2 = _ := hd 2 (by decide +kernel)
      rw [d2]
      go_simp
      refine hKx _ _ rfl (NoR.of (Below.refl _ _) (by decide)) (by first | rfl | simp)
    · have d3 : vals 3 = _ := hd 3 (by decide +kernel)
      rw [d3]
      have z0 := hS.1.cell (k := 8) rfl
      go_simp
      refine hKx _ _ rfl (NoR.of (Below.refl _ _) (by decide)) (by first | rfl | simp)
    · refine wp_loadV 51 _ rfl qx 0 rfl (ndV x) (Lib.hid hS.2.1.inV) (Lib.hid (manyN x)) ?_
      refine hKx _ _ rfl (NoR.of (Below.refl _ _) (by decide)) (by first | rfl | simp)
    · have d5 : vals 5 = _ := hd 5 (by decide +kernel)
      rw [d5]
      refine wp_buildSliceM _ _ _ rfl _ (by rfl) _ _ (Lib.hid (slice_node x wr)) ?_
      refine hKx _ _ rfl (NoR.of (below_new _ _) (by decide)) ⟨_, rfl, rowA_new wr _ _, hS.2.2.1⟩
    · have d4 : vals 4 = _ := hd 4 (by decide +kernel)
      obtain ⟨g, d6, g1, g2⟩ := hd 6 (by decide +kernel)
      rw [d4, d6]
      have HOx := Lib.hid (hS.2.2.2.2 hl)
      have HYx : Hid (RowA wr g 51 (ndV x) ∧ (ndV x).size = 7 ∧ ∀ v ∈ ndV x, v.oneCell' = true) := ⟨g1, rfl, ndV_one x⟩
      have HEx : Hid (m ≤ 1000000 ∧ B ≤ wr.heap.size) := ⟨hm6.out, Nat.le_trans hBS.out hS.2.2.1⟩
      refine wp_append_one _ _ 45 rfl B 51 7 nds_elem C m d (ndCells ts) rfl HOx g rfl 51 (ndV x) HYx HEx ?_
      intro A2 c2 w2 hO2 hg2
      refine hKx _ _ rfl (by unfold NoR; rw [if_pos rfl]; exact hg2.out) ⟨A2, c2, rfl, hO2.out⟩
    · have d0 : vals 0 = _ := hd 0 (by decide +kernel)
      rw [d0]
      go_simp
      refine hKx _ _ rfl (NoR.of (Below.refl _ _) (by decide)) (by first | rfl | simp)
    · have d8 : vals 8 = _ := hd 8 (by decide +kernel)
      rw [d8]
      go_simp
      refine hKx _ _ rfl (NoR.of (Below.refl _ _) (by decide)) (by first | rfl | simp)
   case hfinq0 =>
    intro vals wr l hl hS hP
    obtain ⟨A2, c2, ez_7, hO7⟩ := hP 7 (by decide)
    have ez_9 : vals 9 = _ := hP 9 (by decide)
    have c0x := hS.1.cell (k := 8) rfl
    have f0x := hS.1.free 8
    have hR2 := Lib.hid (hS.1.set 8 (.slice A2 (m + 1) c2))
    have hK2 := Lib.hid (hS.2.2.2.1.trans (Kn.of (grown_set wr q 8 (.slice A2 (m + 1) c2))))
    have hO2 := Lib.hid (hO7.over (grown_set wr q 8 (.slice A2 (m + 1) c2)) (fun g e => by cases e; exact hO7.differ hS.1 tr_ne_tn))
    clear hS hP hO7 hl
    try dsimp only
    rw [ez_7, ez_9]
    clear ez_7 ez_9
    refine wpAny_ready (rs := [10]) (by kernel_rfl) (by simp) (AllReady.cons rfl (fun KC hKC => ?_) AllReady.nil)
    go_simp
    refine hKC _ _ ?_
    clear hKC KC c0x f0x
    refine wpAny_done (by kernel_rfl) ?_ _
    generalize wr.setCell ⟨q, 8, none⟩ (.slice A2 (m + 1) c2) = wN at *
    have hEst : (addS x2 (nodP L x.p st)).E = 0 → st.E = 0 := fun e => nodP_E e
    have hst : nodS L x2 st = addS x2 (nodP L x.p st) := by unfold nodS; rw [hxp]
    have hK3 := HK.out.trans hK2.out
    have hfin : RdW wN B q en L (nodS L x2 st) := by
     rw [hst]
     refine ⟨A, n, c, A2, m + 1, c2, ts ++ [x], ?_, ?_, ⟨?_, ?_⟩, ?_, ?_, H68.out.1, ?_, H68.out.2⟩
     · have h9 := hR2.out
       show RowA _ _ _ (rdC A n c en L (nodP L x.p st).E (nodP L x.p st).P A2 (m + 1) c2 (((nodP L x.p st).mad + 1 : Nat) : Int) (((nodP L x.p st).op : Nat) : Int))
       rw [HEP.out.1, HEP.out.2.1, HEP.out.2.2, Hmd.out]
       exact h9
     · exact HTok.out.kn hK2.out HR.out
     · rw [List.length_append, ← HOt.out.1]; rfl
     · rw [ndCells_snoc]; exact hO2.out
     · show _ = ((nodP L x.p st).ts ++ [x2]).length
       rw [List.length_append, List.length_append, H45.out.1]; rfl
     · intro e
       have e2 : E9 = 0 := HEP.out.1.symm.trans e
       show _ = (nodP L x.p st).ts ++ [x2]
       rw [H45.out.2 e2, HE0.out (hEst e)]
     · exact HTb.out.kn hK2.out H68.out.1
    go_wp2
    go_end0
    exact ⟨rfl, hfin, hK3⟩
end
end Go.Proofs.YtheaepceghnkpaaDoor

/- What the reader of package parse does: last, joinKind, open. Condition: a reader that reads in memory. -/
namespace Go.Proofs.YtheaepceghnkpaaDoor
open Go.RowKit Limb
set_option linter.unusedVariables false
section
variable {w : World} {B q en : Nat} {L : Lim} {st : St}
set_option maxHeartbeats 4000000 in
set_option maxRecDepth 100000 in
theorem pLast_c (h : RdW w B q en L st) :
 Calls Tryd.prog 57 #[.pointer (some ⟨q, 0, none⟩)] w fun x w' => x = .returned (.int .i64 (lastS st)) ∧ w' = w := by
 obtain ⟨A, n, c, C, m, d, ts, h1, h2, h3, h4, _⟩ := h
 have c8 := h1.cell (k := 8) (v := .slice C m d) rfl
 have hv : lastS st = (m : Int) - 1 := by unfold lastS; rw [← h4, ← h3.1]
 have hm : (m : Int) ≤ 9223372036854775807 := by have := h3.2.caps; unfold maxLen at this; omega
 rw [hv]
 clear h1 h2 h3 h4 hv
 go_enter Tryd.func57, Tryd.ntmps57
 go_wp2
 go_ret
 exact ⟨rfl, rfl⟩
set_option maxHeartbeats 4000000 in
set_option maxRecDepth 100000 in
theorem pJoinKind_c (t : List Nat) (ht : Bytes t) (w : World) :
 Calls Tryd.prog 59 #[.string (strOf t)] w fun x w' => x = .returned (.int .i64 (joiN t)) ∧ w' = w := by
 have e0 := str_beq ht (b := [43]) (fun x hx => by rw [List.mem_singleton.1 hx]; decide)
 rw [toList_strOf [43], show ([43] : List Nat).map UInt8.ofNat = [43] from rfl] at e0
 by_cases g0 : t = [43]
 · rw [decide_eq_true g0] at e0
   have hv : Hid (joiN t = 3) := by show _ = _; rw [g0]; rfl
   clear g0
   generalize strOf t = T at *
   go_enter Tryd.func59, Tryd.ntmps59
   go_wp2
   go_ret
   exact ⟨by rw [hv.out]; rfl, rfl⟩
 · rw [decide_eq_false g0] at e0
   have e1 := str_beq ht (b := [45]) (fun x hx => by rw [List.mem_singleton.1 hx]; decide)
   rw [toList_strOf [45], show ([45] : List Nat).map UInt8.ofNat = [45] from rfl] at e1
   by_cases g1 : t = [45]
   · rw [decide_eq_true g1] at e1
     have hv : Hid (joiN t = 4) := by show _ = _; rw [g1]; rfl
     clear g0 g1
     generalize strOf t = T at *
     go_enter Tryd.func59, Tryd.ntmps59
     go_wp2
     go_ret
     exact ⟨by rw [hv.out]; rfl, rfl⟩
   · rw [decide_eq_false g1] at e1
     have e2 := str_beq ht (b := [42]) (fun x hx => by rw [List.mem_singleton.1 hx]; decide)
     rw [toList_strOf [42], show ([42] : List Nat).map UInt8.ofNat = [42] from rfl] at e2
     by_cases g2 : t = [42]
     · rw [decide_eq_true g2] at e2
       have hv : Hid (joiN t = 5) := by show _ = _; rw [g2]; rfl
       clear g0 g1 g2
       generalize strOf t = T at *
       go_enter Tryd.func59, Tryd.ntmps59
       go_wp2
       go_ret
       exact ⟨by rw [hv.out]; rfl, rfl⟩
     · rw [decide_eq_false g2] at e2
       have hv : Hid (joiN t = 6) := by show _ = _; unfold joiN; rw [if_neg g0, if_neg g1, if_neg g2]
       clear g0 g1 g2
       generalize strOf t = T at *
       go_enter Tryd.func59, Tryd.ntmps59
       go_wp2
       go_ret
       exact ⟨by rw [hv.out]; rfl, rfl⟩
theorem RdW.depth (h : RdW w B q en L st) (o : Nat) : RdW (w.setCell ⟨q, 10, none⟩ (.int .i64 (o : Int))) B q en L { st with op := o } := by
 obtain ⟨A, n, c, C, m, d, ts, h1, h2, h3, h4, h5, h6, h7, h8⟩ := h
 have hg := grown_set w q 10 (.int .i64 (o : Int))
 exact ⟨A, n, c, C, m, d, ts, h1.set 10 _, h2.kn (Kn.of (B := B) hg) h1, h3.q h1 hg, h4, h5, h6, h7.kn (Kn.of hg) h6, h8⟩
theorem RdW.cell10 (h : RdW w B q en L st) : w.cell? ⟨q, 10, none⟩ = some (.int .i64 (st.op : Int)) ∧ w.frozen? ⟨q, 10, none⟩ = false := by
 obtain ⟨A, n, c, C, m, d, h1⟩ := h.size
 exact ⟨h1.cell (k := 10) rfl, h1.free 10⟩
theorem opnP_op (L : Lim) (st : St) : (opnP L st).op = st.op := by
 unfold opnP failS
 split
 · split <;> rfl
 · rfl
theorem RdW.fill (h : RdW w B q en L st) {g : Nat} {U : Array Value} (hr : RowA w g 39 U) (hne : g ≠ q) (hgB : B ≤ g) (V' : Array Value) : RdW (w.setRow g V') B q en L st := by
 obtain ⟨A, n, c, C, m, d, ts, h1, h2, h3, h4, h5, h6, h7, h8⟩ := h
 have hg : w.grownBy (w.setRow g V') (some g) := ⟨rfl, rfl, rfl, by rw [setRow_size]; exact Nat.le_refl _, fun k hk hr => setRow_other w g k V' (fun e => hr (by rw [e]))⟩
 have ho := h3.2.differ hr (by decide)
 refine ⟨A, n, c, C, m, d, ts, h1.grown hg (fun e => hne (by injection e)), ⟨h2.1, h2.2.1, h2.2.2.1, fun h0 => ?_⟩, ⟨h3.1, h3.2.over hg (fun k e => by cases e; exact ho)⟩, h4, h5, h6, ?_, h8⟩
 · obtain ⟨g2, o, V, e, hb, hr2, hc⟩ := h2.2.2.2 h0
   have hr3 := hr2.grown hg (fun e => by injection e with e; omega)
   exact ⟨g2, o, V, e, hb, hr3, fun i t hi => inV_row (hc i t hi) hr2 hr3⟩
 · refine ⟨h7.1.same fun b i v hb hc => ?_, h7.2⟩
   have e := hg.block b (kcell_lt hc) (fun e => by injection e with e; have := h7.2; omega)
   rw [← hc]
   simp [World.cell?, e]
set_option maxHeartbeats 4000000 in
set_option maxRecDepth 100000 in
theorem pOpen_c (h : RdW w B q en L st) (hop : st.op ≤ 1000) (hB : B ≤ w.heap.size) :
 Calls Tryd.prog 66 #[.pointer (some ⟨q, 0, none⟩)] w fun x w' => x = .returned (.agg (tkV (opnX L st))) ∧ RdW w' B q en L (opnS L st) ∧ w.grownBy w' (some q) := by
 have hlt := h.lt
 have bn := below_new w (.cells (tkC 0 ⟨#[]⟩ 0) 39)
 have HX := rowA_new w 39 (tkC 0 ⟨#[]⟩ 0)
 have H1 := Lib.hid (h.below bn)
 have G1 := Lib.hid (gr_of bn (some q))
 obtain ⟨g1, hg1⟩ : ∃ g, g = w.heap.size := ⟨_, rfl⟩
 rw [← hg1] at HX
 have Hg1 := Lib.hid hg1
 have Hne : Hid (some q ≠ some g1) := fun e => by injection e with e; omega
 have HX := Lib.hid HX
 have Hop := Lib.hid hop
 have HBw := Lib.hid hB
 clear h bn hlt hop hB
 go_enter Tryd.func66, Tryd.ntmps66
 go_wp2_with fail
 rw [← hg1]
 clear hg1
 generalize w.alloc (.cells (tkC 0 ⟨#[]⟩ 0) 39) = w1 at *
 obtain ⟨A, n, c, C, m, d, hr0⟩ := H1.out.size
 have k10 := hr0.cell (k := 10) (v := .int .i64 (st.op : Int)) rfl
 have k3 := hr0.cell (k := 3) (v := .int .i64 (L.deep : Int)) rfl
 clear hr0
 by_cases hmk : st.op = L.deep
 · have e1 : ((st.op : Int) == (L.deep : Int)) = true := by rw [hmk]; simp
   have hP : Hid (opnP L st = failS 2 (pkS st).2.2 st) := by show _ = _; unfold opnP; rw [if_pos hmk]
   clear hmk
   go_quiet (fail)
   have bq := below_drewN (Below.refl w1.heap.size w1) nq
   have H2 := Lib.hid (H1.out.below bq)
   have G2 := Lib.hid (gr_trans G1.out (gr_of bq (some q)))
   have X2 := Lib.hid (HX.out.below bq)
   generalize w1.drewN nq = w2 at *
   clear k10 k3 bq H1 G1 HX
   obtain ⟨⟨k, t, a⟩, hp⟩ : ∃ t, t = pkS (st) := ⟨_, rfl⟩
   replace hp := Lib.hid hp.symm
   have hfld := fun W => (fldTk (k : Int) (strOf t) (a : Int) W).2.2
   go_wp2_with fail
   refine (pPeek_t H2.out hp.out).mono ?_
   rintro e w3 ⟨rfl, bn⟩
   have H3 := Lib.hid (H2.out.below bn)
   have G3 := Lib.hid (gr_trans G2.out (gr_of bn (some q)))
   have X3 := Lib.hid (X2.out.below bn)
   clear bn H2 G2 X2
   go_wp2_with fail
   refine (pFail_c H3.out 2 (a : Int) (by decide)).mono ?_
   rintro e wB ⟨rfl, hS, hg⟩
   have HS : Hid (RdW wB B q en L (opnP L st)) := by show RdW _ _ _ _ _ _; rw [hP.out, hp.out]; exact hS
   have GB := Lib.hid (gr_trans G3.out hg)
   have XB := Lib.hid (X3.out.grown hg Hne.out)
   clear hS hg H3 G3 X3 hfld
   have hop : (opnP L st).op = st.op := opnP_op L st
   obtain ⟨k10, f10⟩ := HS.out.cell10
   rw [hop] at k10
   have hop6 : (st.op : Int) ≤ 1000000 := by have := Hop.out; omega
   have hop0 : (0 : Int) ≤ (st.op : Int) := by omega
   have HD : Hid (RdW (wB.setCell ⟨q, 10, none⟩ (.int .i64 ((st.op : Int) + 1))) B q en L (incS (opnP L st))) := by
    have h := HS.out.depth (st.op + 1)
    have e : incS (opnP L st) = { opnP L st with op := st.op + 1 } := by unfold incS; rw [hop]
    show RdW _ _ _ _ _ _
    rw [e]
    exact h
   have GD := Lib.hid (gr_trans GB.out (grown_set wB q 10 (.int .i64 ((st.op : Int) + 1))))
   have XD := Lib.hid (XB.out.grown (grown_set wB q 10 (.int .i64 ((st.op : Int) + 1))) Hne.out)
   clear HS GB XB hop
   go_wp2_with fail
   generalize wB.setCell ⟨q, 10, none⟩ (.int .i64 ((st.op : Int) + 1)) = wD at *
   clear k10 f10 hop6 hop0
   refine (pRead_c HD.out).mono ?_
   rintro e wE ⟨rfl, hE, hg⟩
   have HE := Lib.hid hE
   have GE := Lib.hid (gr_trans GD.out hg)
   have XE := Lib.hid (XD.out.grown hg Hne.out)
   have HU : Hid (Many Tryd.prog 39 (tkV (pkS (incS (opnP L st)))).size ∧ (tkC 0 ⟨#[]⟩ 0).size = (tkV (pkS (incS (opnP L st)))).size ∧ ∀ v ∈ tkV (pkS (incS (opnP L st))), v.oneCell' = true) := fitsTk _ _ _
   have HRf := Lib.hid (RowA.fill XE.out (V' := tkV (pkS (incS (opnP L st)))))
   have HF : Hid (RdW (wE.setRow g1 (tkV (pkS (incS (opnP L st))))) B q en L (opnS L st)) := by
    exact RdW.fill HE.out XE.out (fun e => Hne.out (congrArg some e.symm)) (by rw [Hg1.out]; exact HBw.out) (tkV (pkS (incS (opnP L st))))
   have HG := Lib.hid (gr_fill GE.out (Nat.le_of_eq Hg1.out.symm) (tkV (pkS (incS (opnP L st)))))
   clear hE hg HD GD XD HE GE
   go_wp2_with (refine wpList_storeV (by rfl) _ _ _ (by rfl) _ (by rfl) _ (by rfl) _ _ (by assumption) (by assumption) ?_)
   refine bodyPost_ret (results_cell_row rfl _ _ _ 39 (tkV (pkS (incS (opnP L st)))) (0, 0) _ rfl HRf.out Tryd.underlying39 rfl sizeTk) rfl ?_
   exact ⟨rfl, HF.out, HG.out⟩
 · have e1 : ((st.op : Int) == (L.deep : Int)) = false := by rw [beq_eq_false_iff_ne]; omega
   have hP : Hid (opnP L st = st) := by show _ = _; unfold opnP; rw [if_neg hmk]
   clear hmk
   go_quiet (fail)
   have bq := below_drewN (Below.refl w1.heap.size w1) nq
   have H2 := Lib.hid (H1.out.below bq)
   have G2 := Lib.hid (gr_trans G1.out (gr_of bq (some q)))
   have X2 := Lib.hid (HX.out.below bq)
   generalize w1.drewN nq = w2 at *
   clear k10 k3 bq H1 G1 HX
   have HS : Hid (RdW w2 B q en L (opnP L st)) := by show RdW _ _ _ _ _ _; rw [hP.out]; exact H2.out
   have GB := Lib.hid G2.out
   have XB := Lib.hid X2.out
   clear H2 G2 X2
   generalize w2 = wB at *
   have hop : (opnP L st).op = st.op := opnP_op L st
   obtain ⟨k10, f10⟩ := HS.out.cell10
   rw [hop] at k10
   have hop6 : (st.op : Int) ≤ 1000000 := by have := Hop.out; omega
   have hop0 : (0 : Int) ≤ (st.op : Int) := by omega
   have HD : Hid (RdW (wB.setCell ⟨q, 10, none⟩ (.int .i64 ((st.op : Int) + 1))) B q en L (incS (opnP L st))) := by
    have h := HS.out.depth (st.op + 1)
    have e : incS (opnP L st) = { opnP L st with op := st.op + 1 } := by unfold incS; rw [hop]
    show RdW _ _ _ _ _ _
    rw [e]
    exact h
   have GD := Lib.hid (gr_trans GB.out (grown_set wB q 10 (.int .i64 ((st.op : Int) + 1))))
   have XD := Lib.hid (XB.out.grown (grown_set wB q 10 (.int .i64 ((st.op : Int) + 1))) Hne.out)
   clear HS GB XB hop
   go_wp2_with fail
   generalize wB.setCell ⟨q, 10, none⟩ (.int .i64 ((st.op : Int) + 1)) = wD at *
   clear k10 f10 hop6 hop0
   refine (pRead_c HD.out).mono ?_
   rintro e wE ⟨rfl, hE, hg⟩
   have HE := Lib.hid hE
   have GE := Lib.hid (gr_trans GD.out hg)
   have XE := Lib.hid (XD.out.grown hg Hne.out)
   have HU : Hid (Many Tryd.prog 39 (tkV (pkS (incS (opnP L st)))).size ∧ (tkC 0 ⟨#[]⟩ 0).size = (tkV (pkS (incS (opnP L st)))).size ∧ ∀ v ∈ tkV (pkS (incS (opnP L st))), v.oneCell' = true) := fitsTk _ _ _
   have HRf := Lib.hid (RowA.fill XE.out (V' := tkV (pkS (incS (opnP L st)))))
   have HF : Hid (RdW (wE.setRow g1 (tkV (pkS (incS (opnP L st))))) B q en L (opnS L st)) := by
    exact RdW.fill HE.out XE.out (fun e => Hne.out (congrArg some e.symm)) (by rw [Hg1.out]; exact HBw.out) (tkV (pkS (incS (opnP L st))))
   have HG := Lib.hid (gr_fill GE.out (Nat.le_of_eq Hg1.out.symm) (tkV (pkS (incS (opnP L st)))))
   clear hE hg HD GD XD HE GE
   go_wp2_with (refine wpList_storeV (by rfl) _ _ _ (by rfl) _ (by rfl) _ (by rfl) _ _ (by assumption) (by assumption) ?_)
   refine bodyPost_ret (results_cell_row rfl _ _ _ 39 (tkV (pkS (incS (opnP L st)))) (0, 0) _ rfl HRf.out Tryd.underlying39 rfl sizeTk) rfl ?_
   exact ⟨rfl, HF.out, HG.out⟩
end
end Go.Proofs.YtheaepceghnkpaaDoor

/- What the reference's Cut and the statements' Most answer, as contracts over memory. No condition. -/
namespace Go.Proofs.YtheaepceghnkpaaDoor
open Go.RowKit Limb
set_option linter.unusedVariables false
abbrev limC (a b n p : Int) : Array Value := #[.int .i64 a, .int .i64 b, .int .i64 n, .int .i64 p]
theorem sizeLim : (Tryd.prog.info? 32).map (·.size) = some 4 := by kernel_rfl
theorem manyLim (a b n p : Int) : Many Tryd.prog 32 (limC a b n p).size := ⟨sizeLim, _, Tryd.underlying32, rfl⟩
theorem fitsLim (a b n p : Int) : Many Tryd.prog 32 (limC a b n p).size ∧ (limC 0 0 0 0).size = (limC a b n p).size ∧ ∀ v ∈ limC a b n p, v.oneCell' = true := ⟨manyLim a b n p, rfl, by simp [Value.oneCell']⟩
set_option maxHeartbeats 4000000 in
set_option maxRecDepth 100000 in
theorem pMost_c (w : World) :
 Calls Tryd.prog 7 #[] w fun e w' => e = .returned (.agg (limC 4000 60 2000 64)) ∧ Below w.heap.size w w' := by
 have HU := Lib.hid (fitsLim 4000 60 2000 64)
 have hz := rowA_new w 32 (limC 0 0 0 0)
 have HRf := Lib.hid (rowA_new w 32 (limC 4000 60 2000 64))
 have HE := Lib.hid (below_new w (.cells (limC 4000 60 2000 64) 32))
 go_enter Tryd.func7, Tryd.ntmps7
 go_wp2
 refine bodyPost_ret (results_cell_row rfl _ _ _ 32 (limC 4000 60 2000 64) (0, 0) _ rfl HRf.out Tryd.underlying32 rfl sizeLim) rfl ?_
 exact ⟨rfl, HE.out⟩
theorem cutL_most : cutL 4000 60 2000 64 = mostL := rfl
end Go.Proofs.YtheaepceghnkpaaDoor

/- What strconv.Atoi answers at any text, what the reader of package parse does with a number of a few digits. Condition: a reader that reads in memory. -/
namespace Go.Proofs.YtheaepceghnkpaaDoor
open Go.RowKit Limb
set_option linter.unusedVariables false
section
variable {w : World} {B q en : Nat} {L : Lim} {st : St}
theorem decFrom_all : ∀ (l : List UInt8) (acc : Nat), (l.map UInt8.toNat).all isDig = true → Lib.decFrom acc l = some ((l.map UInt8.toNat).foldl (fun a d => a * 10 + (d - 48)) acc)
 | [], acc, _ => rfl
 | c :: r, acc, h => by
  rw [List.map_cons, List.all_cons, Bool.and_eq_true] at h
  have hd : Lib.digitVal c = some (c.toNat - 48) := if_pos (by have := h.1; unfold isDig at this; simpa using this)
  simp only [Lib.decFrom, hd]
  rw [decFrom_all r _ h.2]; rfl
theorem decFrom_not : ∀ (l : List UInt8) (acc : Nat), (l.map UInt8.toNat).all isDig = false → Lib.decFrom acc l = Option.none
 | [], acc, h => by cases h
 | c :: r, acc, h => by
  rw [List.map_cons, List.all_cons] at h
  by_cases hc : isDig c.toNat = true
  · have hd : Lib.digitVal c = some (c.toNat - 48) := if_pos (by unfold isDig at hc; simpa using hc)
    simp only [Lib.decFrom, hd]
    rw [hc, Bool.true_and] at h
    exact decFrom_not r _ h
  · have hd : Lib.digitVal c = Option.none := if_neg (by unfold isDig at hc; simpa using hc)
    simp only [Lib.decFrom, hd]
theorem atoi_hd {tx : List Nat} {E : ByteArray} (hE : bytesOf E = tx) {c : Nat} {r : List Nat} (h : tx = c :: r) (hc : isDig c = true) : Lib.atoi E.data.toList = if tx.all isDig = true then some ((digV tx : Nat) : Int) else Option.none := by
 unfold bytesOf at hE
 generalize E.data.toList = l at hE ⊢
 subst h
 obtain ⟨y, l3, e4, e5, e6⟩ := List.map_eq_cons_iff.1 hE
 subst e4
 have n1 : (y == 45) = false := by
  rw [beq_eq_false_iff_ne]; rintro rfl
  rw [← e5] at hc; exact absurd hc (by decide)
 have n2 : (y == 43) = false := by
  rw [beq_eq_false_iff_ne]; rintro rfl
  rw [← e5] at hc; exact absurd hc (by decide)
 show (if (y == 45) = true then (Lib.decNat l3).map (fun m : Nat => -(m : Int)) else if (y == 43) = true then (Lib.decNat l3).map (fun m : Nat => (m : Int)) else (Lib.decNat (y :: l3)).map (fun m : Nat => (m : Int))) = _
 rw [n1, n2]
 simp only [Bool.false_eq_true, if_false]
 have e0 : Lib.decNat (y :: l3) = Lib.decFrom 0 (y :: l3) := rfl
 rw [e0, ← hE]
 by_cases ha : ((y :: l3).map UInt8.toNat).all isDig = true
 · rw [if_pos ha, decFrom_all _ _ ha]; rfl
 · rw [if_neg ha, decFrom_not _ _ (by simpa using ha)]; rfl
theorem pAtoi_c (E : ByteArray) (hs : E.size ≤ 5000) (w : World) (T : ETab w) :
 Calls Tryd.prog 55 #[.string E] w fun e w' => ∃ N v, e = .returned (.tuple #[.int .i64 N, v]) ∧ Below w.heap.size w w' ∧ (E.size ≤ 18 → (∀ n, Lib.atoi E.data.toList = some n → N = n ∧ v = .nilIface) ∧ (Lib.atoi E.data.toList = Option.none → ∃ t p, v = .iface t p)) := by
 obtain ⟨⟨te, pe, h1⟩, te2, pe2, h2⟩ := T
 have hsh : E.size ≤ 18 → Lib.atoiAll E.data.toList = Lib.NumEnd.ofOption (Lib.atoi E.data.toList) := fun h => Lib.atoiAll_short _ (by rw [Array.length_toList]; exact h)
 cases h : Lib.atoiAll E.data.toList
 · rename_i v
   refine (Any.strconv_Atoi_ok Tryd.laysC172 E (by omega) v h w).mono ?_
   rintro e w' ⟨rfl, hw⟩
   refine ⟨v, .nilIface, rfl, ?_, fun hz => ⟨fun n hn => ?_, fun hn => ?_⟩⟩
   · rcases hw with rfl | ⟨t, rfl⟩
     · exact Below.refl _ _
     · exact Lib.bytesWorld_below _ _ _
   · have := hsh hz; rw [h, hn] at this; injection this with this; exact ⟨this, rfl⟩
   · have := hsh hz; rw [h, hn] at this; cases this
 · refine (Any.strconv_Atoi_syntax Tryd.laysC172 E (by omega) h _ w h1 (.inr ⟨te, pe, rfl⟩)).mono ?_
   rintro e w' ⟨N, rfl, _, _, hb⟩
   refine ⟨0, _, rfl, hb, fun hz => ⟨fun n hn => ?_, fun hn => ⟨_, _, rfl⟩⟩⟩
   have := hsh hz; rw [h, hn] at this; cases this
 · refine (Any.strconv_Atoi_range Tryd.laysC172 E (by omega) h _ w h2 (.inr ⟨te2, pe2, rfl⟩)).mono ?_
   rintro e w' ⟨N, rfl, _, _, hb⟩
   refine ⟨_, _, rfl, hb, fun hz => ⟨fun n hn => ?_, fun hn => ⟨_, _, rfl⟩⟩⟩
   have := hsh hz; rw [h, hn] at this; cases this
theorem refS_E (en : Nat) (st : St) : (rdS (refS en st)).E ≠ 0 := by
 unfold refS failS
 split
 · exact fun e => by cases e
 · rename_i h; exact h
set_option maxHeartbeats 4000000 in
set_option maxRecDepth 100000 in
theorem pSmall_c (h : RdW w B q en L st) (k most : Nat) (hk : k ≤ 3) :
 Calls Tryd.prog 46 #[.pointer (some ⟨q, 0, none⟩), .int .i64 (k : Int), .int .i64 (most : Int)] w fun x w' => ∃ N : Int, x = .returned (.int .i64 N) ∧ ((smlS en k most st).E = 0 → N = ((smlV k st).getD 0 : Nat)) ∧ RdW w' B q en L (smlS en k most st) ∧ w.grownBy w' (some q) ∧ C8 q w w' := by
 obtain ⟨⟨kd, t, a⟩, hp⟩ : ∃ t, t = pkS st := ⟨_, rfl⟩
 have hF := h.pk
 rw [← hp] at hF
 replace hp := Lib.hid hp.symm
 obtain ⟨hF1, hF2, hF3⟩ := hF
 dsimp only at hF1 hF2 hF3
 have hbt : bytesOf (strOf t) = t := bytesOf_strOf hF1
 have hsz := size_strOf t
 have HV : Hid (smlV k st = if kd = 2 then smallT t k else Option.none) := by show _ = _; unfold smlV; rw [hp.out]
 generalize hT : strOf t = T at hbt hsz
 have HT := Lib.hid hT
 have hs5 : T.size ≤ 5000 := by omega
 have HBt := Lib.hid hbt
 have HSz := Lib.hid hsz
 have HU := Lib.hid (fitsTk (kd : Int) T (a : Int))
 have HF3 := Lib.hid hF3
 have Hs5 := Lib.hid hs5
 have Hk := Lib.hid hk
 have H0 := Lib.hid h
 have Hq0 := Lib.hid h.lt
 clear h hT hbt hsz hF1 hF2 hF3 hs5 hk
 go_enter Tryd.func46, Tryd.ntmps46
 go_wp2_with fail
 refine (pPeek_t H0.out hp.out).mono ?_
 rintro e w2 ⟨rfl, bn⟩
 rw [HT.out]
 have b2 := below_two bn (below_new w2 (.cells #[.int .i64 (kd : Int), .string T, .int .i64 (a : Int)] 39))
 have HR := rowA_new w2 39 #[.int .i64 (kd : Int), .string T, .int .i64 (a : Int)]
 have H2 := Lib.hid (H0.out.below b2)
 have HB2 := Lib.hid b2
 have k1 := HR.cell (k := 1) (v := .string T) rfl
 have HR := Lib.hid HR
 clear bn b2
 go_wp2_with (refine wpList_storeNew (by rfl) _ _ _ (by rfl) _ _ _ (by rfl) (by rfl) (by assumption) ?_; generalize w2.alloc (.cells #[.int .i64 (kd : Int), .string T, .int .i64 (a : Int)] 39) = w3 at *)
 obtain ⟨gb, hgb⟩ : ∃ g, g = w2.heap.size := ⟨_, rfl⟩
 rw [← hgb] at HR k1 ⊢
 clear hgb
 refine (pAtoi_c T Hs5.out w3 H2.out.tabs.2.2).mono ?_
 rintro e w4 ⟨N, v, rfl, bn, hat⟩
 have HA := Lib.hid hat
 have H4 := Lib.hid (H2.out.below bn)
 have HB4 := Lib.hid (below_two HB2.out bn)
 have HR4 := HR.out.below bn
 have k0 := HR4.cell (k := 0) (v := .int .i64 (kd : Int)) rfl
 have k1 := HR4.cell (k := 1) (v := .string T) rfl
 have k2 := HR4.cell (k := 2) (v := .int .i64 (a : Int)) rfl
 clear bn hat H2 HB2 HR HR4
 by_cases h2 : kd = 2
 · have e2 : ((kd : Int) != 2) = false := by rw [h2]; rfl
   by_cases h3 : k < t.length
   · have e3 : (k : Int) < (T.size : Int) := by have := HSz.out; omega
     have HN : Hid (smlV k st = Option.none) := by
      show _ = _
      rw [HV.out, if_pos h2]
      exact if_neg (fun hh => by have := hh.2.2; omega)
     clear h2 h3
     go_wp2_with fail
     refine (pRefuse_x H4.out).mono ?_
     rintro e w5 ⟨rfl, h5, hg, h8⟩
     have C5 := Lib.hid ((C8.below HB4.out Hq0.out).trans h8)
     have H5 := Lib.hid h5
     have G5 := Lib.hid (gr_trans (gr_of HB4.out (some q)) hg)
     clear h5 hg k0 k1 k2
     go_wp2_with fail
     refine (pRead_x H5.out).mono ?_
     rintro e w6 ⟨rfl, h6, hg, h8⟩
     have C6 := Lib.hid (C5.out.trans h8)
     have H6 := Lib.hid h6
     have G6 := Lib.hid (gr_trans G5.out hg)
     clear h6 hg
     go_wp2
     go_ret
     have hst : smlS en k most st = rdS (refS en st) := by unfold smlS smlP; rw [HN.out]
     refine ⟨_, rfl, fun e => ?_, by rw [hst]; exact H6.out, G6.out, C6.out⟩
     rw [hst] at e
     exact absurd e (refS_E en st)
   · have e3 : ¬ (k : Int) < (T.size : Int) := by have := HSz.out; omega
     have h18 : T.size ≤ 18 := by have := HSz.out; have := Hk.out; omega
     obtain ⟨c, r, hcr, hc⟩ := HF3.out h2
     have hat := atoi_hd HBt.out hcr hc
     obtain ⟨ha1, ha2⟩ := HA.out h18
     by_cases had : t.all isDig = true
     · rw [if_pos had] at hat
       obtain ⟨rfl, rfl⟩ := ha1 _ hat
       have HN : Hid (smlV k st = some (digV t)) := by
        show _ = _
        rw [HV.out, if_pos h2]
        exact if_pos ⟨had, by rw [hcr]; simp, by omega⟩
       clear ha1 ha2 had hat hcr hc h3 h2 h18
       generalize digV t = n at *
       by_cases hm : most < n
       · have e4 : (most : Int) < (n : Int) := by omega
         have Hm := Lib.hid hm
         clear hm
         go_wp2_with fail
         refine (pFail_8 H4.out 2 (a : Int) (by decide)).mono ?_
         rintro e w5 ⟨rfl, h5, hg, h8⟩
         have C5 := Lib.hid ((C8.below HB4.out Hq0.out).trans h8)
         have H5 := Lib.hid h5
         have G5 := Lib.hid (gr_trans (gr_of HB4.out (some q)) hg)
         clear h5 hg k0 k1 k2
         go_wp2_with fail
         refine (pRead_x H5.out).mono ?_
         rintro e w6 ⟨rfl, h6, hg, h8⟩
         have C6 := Lib.hid (C5.out.trans h8)
         have H6 := Lib.hid h6
         have G6 := Lib.hid (gr_trans G5.out hg)
         clear h6 hg
         go_wp2
         go_ret
         have hst : smlS en k most st = rdS (failS 2 (a : Int) st) := by unfold smlS smlP; rw [HN.out, hp.out]; show rdS (if most < n then _ else _) = _; rw [if_pos Hm.out]
         refine ⟨_, rfl, fun e => ?_, by rw [hst]; exact H6.out, G6.out, C6.out⟩
         rw [HN.out]; rfl
       · have e4 : ¬ (most : Int) < (n : Int) := by omega
         have Hm := Lib.hid hm
         have G4 := Lib.hid (gr_of HB4.out (some q))
         have C4 := Lib.hid (C8.below HB4.out Hq0.out)
         clear hm
         go_wp2_with fail
         refine (pRead_x H4.out).mono ?_
         rintro e w6 ⟨rfl, h6, hg, h8⟩
         have C6 := Lib.hid (C4.out.trans h8)
         have H6 := Lib.hid h6
         have G6 := Lib.hid (gr_trans G4.out hg)
         clear h6 hg
         go_wp2
         go_ret
         have hst : smlS en k most st = rdS st := by unfold smlS smlP; rw [HN.out]; show rdS (if most < n then _ else _) = _; rw [if_neg Hm.out]
         refine ⟨_, rfl, fun e => ?_, by rw [hst]; exact H6.out, G6.out, C6.out⟩
         rw [HN.out]; rfl
     · rw [if_neg had] at hat
       obtain ⟨ti, pi, rfl⟩ := ha2 hat
       have HN : Hid (smlV k st = Option.none) := by
        show _ = _
        rw [HV.out, if_pos h2]
        exact if_neg (fun hh => had hh.1)
       clear ha1 ha2 had hat hcr hc h3 h2 h18
       go_wp2_with fail
       refine (pRefuse_x H4.out).mono ?_
       rintro e w5 ⟨rfl, h5, hg, h8⟩
       have C5 := Lib.hid ((C8.below HB4.out Hq0.out).trans h8)
       have H5 := Lib.hid h5
       have G5 := Lib.hid (gr_trans (gr_of HB4.out (some q)) hg)
       clear h5 hg k0 k1 k2
       go_wp2_with fail
       refine (pRead_x H5.out).mono ?_
       rintro e w6 ⟨rfl, h6, hg, h8⟩
       have C6 := Lib.hid (C5.out.trans h8)
       have H6 := Lib.hid h6
       have G6 := Lib.hid (gr_trans G5.out hg)
       clear h6 hg
       go_wp2
       go_ret
       have hst : smlS en k most st = rdS (refS en st) := by unfold smlS smlP; rw [HN.out]
       refine ⟨_, rfl, fun e => ?_, by rw [hst]; exact H6.out, G6.out, C6.out⟩
       rw [hst] at e
       exact absurd e (refS_E en st)
 · have e2 : ((kd : Int) != 2) = true := by simp; omega
   have HN : Hid (smlV k st = Option.none) := by show _ = _; rw [HV.out, if_neg h2]
   clear h2
   go_wp2_with fail
   refine (pRefuse_x H4.out).mono ?_
   rintro e w5 ⟨rfl, h5, hg, h8⟩
   have C5 := Lib.hid ((C8.below HB4.out Hq0.out).trans h8)
   have H5 := Lib.hid h5
   have G5 := Lib.hid (gr_trans (gr_of HB4.out (some q)) hg)
   clear h5 hg k0 k1 k2
   go_wp2_with fail
   refine (pRead_x H5.out).mono ?_
   rintro e w6 ⟨rfl, h6, hg, h8⟩
   have C6 := Lib.hid (C5.out.trans h8)
   have H6 := Lib.hid h6
   have G6 := Lib.hid (gr_trans G5.out hg)
   clear h6 hg
   go_wp2
   go_ret
   have hst : smlS en k most st = rdS (refS en st) := by unfold smlS smlP; rw [HN.out]
   refine ⟨_, rfl, fun e => ?_, by rw [hst]; exact H6.out, G6.out, C6.out⟩
   rw [hst] at e
   exact absurd e (refS_E en st)
end
end Go.Proofs.YtheaepceghnkpaaDoor

/- What the reader of package parse does: join. Condition: a reader that reads in memory. -/
namespace Go.Proofs.YtheaepceghnkpaaDoor
open Go.RowKit Limb
set_option linter.unusedVariables false
section
variable {w : World} {B q en : Nat} {L : Lim} {st : St}
def CaR (B q en : Nat) (L : Lim) (j : Nat) (st1 : St) (i : Nat) (wx wy : World) : Prop := if i = j then RdW wy B q en L st1 ∧ Kn B q wx wy else Below wx.heap.size wx wy
theorem CaR.of {B q en : Nat} {L : Lim} {j : Nat} {st1 : St} {i : Nat} {wx wy : World} (h : Below wx.heap.size wx wy) (hi : i ≠ j) : CaR B q en L j st1 i wx wy := by unfold CaR; rw [if_neg hi]; exact h
theorem CaR.at {B q en : Nat} {L : Lim} {j : Nat} {st1 : St} {wx wy : World} (h : RdW wy B q en L st1) (k : Kn B q wx wy) : CaR B q en L j st1 j wx wy := by unfold CaR; rw [if_pos rfl]; exact ⟨h, k⟩
theorem CaR.kn {B q en : Nat} {L : Lim} {j : Nat} {st1 : St} {i : Nat} {wx wy : World} (h : CaR B q en L j st1 i wx wy) : Kn B q wx wy := by
 unfold CaR at h
 split at h
 · exact h.2
 · exact Kn.below h
def CaS (wS : World) (B q en : Nat) (L : Lim) (j : Nat) (st st1 : St) (gb : Nat) (U : Array Value) (l : Nat → Bool) (wx : World) : Prop :=
 RowA wx gb 39 U ∧ Kn B q wS wx ∧ (l j = false → RdW wx B q en L st) ∧ (l j = true → RdW wx B q en L st1)
theorem CaS.step {wS : World} {B q en : Nat} {L : Lim} {j : Nat} {st st1 : St} {gb : Nat} {U : Array Value} {l : Nat → Bool} {i : Nat} {wx wy : World} (hne : gb ≠ q) (hl : l i = false) (hR : CaR B q en L j st1 i wx wy) (h : CaS wS B q en L j st st1 gb U l wx) :
 CaS wS B q en L j st st1 gb U (fun k => if k = i then true else l k) wy := by
 obtain ⟨h1, h2, h3, h4⟩ := h
 have hk := hR.kn
 refine ⟨hk.row h1 hne (by decide), h2.trans hk, fun e => ?_, fun e => ?_⟩
 · dsimp only at e
   by_cases hi : j = i
   · rw [if_pos hi] at e; cases e
   · rw [if_neg hi] at e
     unfold CaR at hR
     rw [if_neg (Ne.symm hi)] at hR
     exact (h3 e).below hR
 · dsimp only at e
   by_cases hi : j = i
   · unfold CaR at hR
     rw [if_pos hi.symm] at hR
     exact hR.1
   · rw [if_neg hi] at e
     unfold CaR at hR
     rw [if_neg (Ne.symm hi)] at hR
     exact (h4 e).below hR
theorem rdw_any {wS w : World} {B q en : Nat} {L : Lim} {j : Nat} {st : St} {gb : Nat} {U : Array Value} {l : Nat → Bool} (h : CaS wS B q en L j st st gb U l w) : RdW w B q en L st := by
 cases e : l j with
 | false => exact h.2.2.1 e
 | true => exact h.2.2.2 e
set_option maxHeartbeats 4000000 in
set_option maxRecDepth 100000 in
theorem pJoin_c (h : RdW w B q en L st) (hB : B ≤ w.heap.size) (F : Nat) (hcall : ∀ args w, (callFunc F args).run Tryd.prog w = .ok (.enter F args) w) (fS : St → St) (hF0 : ∀ w1, RdW w1 B q en L (rdS st) → B ≤ w1.heap.size → Calls Tryd.prog F #[.pointer (some ⟨q, 0, none⟩)] w1 fun e w' => e = .returned (.tuple #[]) ∧ RdW w' B q en L (fS (rdS st)) ∧ Kn B q w1 w') (hfit : (fS (rdS st)).ts.length ≤ 1000000 ∧ (fS (rdS st)).mad ≤ 1000000) :
 Calls Tryd.prog 48 #[.pointer (some ⟨q, 0, none⟩), .func (.func F) #[.pointer (some ⟨q, 0, none⟩)] #[]] w fun x w' => x = .returned (.tuple #[]) ∧ RdW w' B q en L (joiK L fS st) ∧ Kn B q w w' := by
 have hF := h.pk
 obtain ⟨⟨k, t, a⟩, hp⟩ : ∃ t, t = pkS st := ⟨_, rfl⟩
 rw [← hp] at hF
 replace hp := Lib.hid hp.symm
 have hbt := Lib.hid hF.1
 have H0 := Lib.hid h
 have HBw := Lib.hid hB
 have HU := Lib.hid (fitsTk (k : Int) (strOf t) (a : Int))
 have hq0 := Lib.hid h.lt
 have HFS := Lib.hid hF0
 have HFi := Lib.hid hfit
 clear h hB hF hF0 hfit
 go_enter Tryd.func48, Tryd.ntmps48
 go_wp2_with fail
 refine (pLast_c H0.out).mono ?_
 rintro e w1 ⟨rfl, rfl⟩
 go_wp2_with fail
 refine (pRead_t H0.out hp.out).mono ?_
 rintro e w2 ⟨rfl, h2, hg⟩
 have bx := below_new w2 (.cells #[.int .i64 (k : Int), .string (strOf t), .int .i64 (a : Int)] 39)
 have H2 := Lib.hid (h2.below bx)
 have K2 := Lib.hid ((Kn.of (B := B) hg).trans (Kn.below bx))
 have HX2 := Lib.hid (rowA_new w2 39 #[.int .i64 (k : Int), .string (strOf t), .int .i64 (a : Int)])
 have hgq : Hid (w2.heap.size ≠ q) := by show _ ≠ _; have := h2.lt; omega
 clear h2 hg bx
 go_wp2_with (refine wpList_storeNew (by rfl) _ _ _ (by rfl) _ _ _ (by rfl) (by rfl) (by assumption) ?_)
 generalize w2.alloc (.cells #[.int .i64 (k : Int), .string (strOf t), .int .i64 (a : Int)] 39) = w3 at *
 obtain ⟨gb, hgb⟩ : ∃ g, g = w2.heap.size := ⟨_, rfl⟩
 rw [← hgb] at hgq HX2 ⊢
 clear hgb
 go_wp2_with (go_at_fn F; refine (HFS.out w3 H2.out (Nat.le_trans HBw.out K2.out.size)).mono ?_; rintro e wS ⟨rfl, h4, k4⟩)
 have HS := Lib.hid h4
 have HK0 := Lib.hid (K2.out.trans k4)
 have HX := Lib.hid (k4.row HX2.out hgq.out (by decide))
 clear h4 k4 H2 K2 HX2 HFS
 go_wp2_with fail
 refine region_freeT 10 1 6 [some 12, some 13, some 14, some 15, some 16, some 17, some 18, some 19, some 20, some 21] ?aFq (CaR B q en L 100 (fS (rdS st))) (CaS wS B q en L 100 (fS (rdS st)) (fS (rdS st)) gb (#[.int .i64 (k : Int), .string (strOf t), .int .i64 (a : Int)])) (fun k vv wx => match k with
  | 0 => vv = .pointer (some ⟨q, 0, none⟩)
  | 1 => vv = .pointer (some ⟨gb, 1, none⟩)
  | 2 => vv = .string (strOf t)
  | 3 => vv = .int .i64 (joiN t)
  | 4 => vv = .int .i64 (lastS st)
  | 5 => vv = .pointer (some ⟨q, 0, none⟩)
  | 6 => vv = .int .i64 (lastS (fS (rdS st)))
  | 7 => vv = .pointer (some ⟨gb, 2, none⟩)
  | 8 => vv = .int .i64 (a : Int)
  | _ => vv = .agg (ndC (joiN t) (lastS st) (lastS (fS (rdS st))) 0 ⟨#[]⟩ ⟨#[]⟩ (a : Int)))
  (by kernel_rfl) ?haFq rfl (by kernel_rfl) (by kernel_rfl) (fun _ _ _ _ _ h => h) ?hSbq ?hPbq ?hSq ?hopq ?hfinq
 case haFq =>
  intro vals
  simp only [fillAll, dAt, Act.put, List.setIfInBounds_toArray, List.set_cons_zero, List.set_cons_succ]
  exact rfl
 case hSbq => exact fun i l wx wy hi hl hR h => CaS.step hgq.out hl hR h
 case hPbq =>
  intro k j v wa wb hk hkj hb h
  match j, h with
  | 0, h => exact h
  | 1, h => exact h
  | 2, h => exact h
  | 3, h => exact h
  | 4, h => exact h
  | 5, h => exact h
  | 6, h => exact h
  | 7, h => exact h
  | 8, h => exact h
  | _ + 9, h => exact h
 case hSq => exact ⟨HX.out.drew, Kn.below (Below.refl _ _).drew, fun _ => HS.out.below (Below.refl _ _).drew, fun e => by cases e⟩
 case hopq =>
  refine .cons (k := 0) ?_ (.cons (k := 1) ?_ (.cons (k := 2) ?_ (.cons (k := 3) ?_ (.cons (k := 4) ?_ (.cons (k := 5) ?_ (.cons (k := 6) ?_ (.cons (k := 7) ?_ (.cons (k := 8) ?_ (.cons (k := 9) ?_ (.nil))))))))))
  all_goals intro vals wr l hl hS hd KC hKx
  all_goals (show Oper.wp _ _ _ _ _ _; dsimp only)
  · go_simp
    refine hKx _ _ rfl (CaR.of (Below.refl _ _) (by decide)) (by first | rfl | simp)
  · go_simp
    refine hKx _ _ rfl (CaR.of (Below.refl _ _) (by decide)) (by first | rfl | simp)
  · have d1 : vals 1 = _ := hd 1 (by decide +kernel)
    rw [d1]
    have z0 := hS.1.cell (k := 1) (v := .string (strOf t)) rfl
    go_simp
    refine hKx _ _ rfl (CaR.of (Below.refl _ _) (by decide)) (by first | rfl | simp)
  · have d2 : vals 2 = _ := hd 2 (by decide +kernel)
    rw [d2]
    have HSx := Lib.hid hS
    clear hS
    go_simp
    go_at_call 59
    refine (pJoinKind_c t hbt.out _).mono ?_
    rintro e w9 ⟨rfl, rfl⟩
    refine hKx _ _ rfl (CaR.of (Below.refl _ _) (by decide)) rfl
  · go_simp
    refine hKx _ _ rfl (CaR.of (Below.refl _ _) (by decide)) (by first | rfl | simp)
  · go_simp
    refine hKx _ _ rfl (CaR.of (Below.refl _ _) (by decide)) (by first | rfl | simp)
  · have d5 : vals 5 = _ := hd 5 (by decide +kernel)
    rw [d5]
    have HSx := Lib.hid hS
    clear hS
    go_simp
    go_at_call 57
    refine (pLast_c (rdw_any HSx.out)).mono ?_
    rintro e w9 ⟨rfl, rfl⟩
    refine hKx _ _ rfl (CaR.of (Below.refl _ _) (by decide)) rfl
  · go_simp
    refine hKx _ _ rfl (CaR.of (Below.refl _ _) (by decide)) (by first | rfl | simp)
  · have d7 : vals 7 = _ := hd 7 (by decide +kernel)
    rw [d7]
    have z0 := hS.1.cell (k := 2) (v := .int .i64 (a : Int)) rfl
    go_simp
    refine hKx _ _ rfl (CaR.of (Below.refl _ _) (by decide)) (by first | rfl | simp)
  · have d3 : vals 3 = _ := hd 3 (by decide +kernel)
    have d4 : vals 4 = _ := hd 4 (by decide +kernel)
    have d6 : vals 6 = _ := hd 6 (by decide +kernel)
    have d8 : vals 8 = _ := hd 8 (by decide +kernel)
    rw [d3, d4, d6, d8]
    refine wp_buildV _ _ rfl _ (by rfl) _ (Lib.hid (fun W => by kernel_rfl : ∀ W, (Instr.build 51 ([(0, .int .i64 (joiN t)), (1, .int .i64 (lastS st)), (2, .int .i64 (lastS (fS (rdS st)))), (6, .int .i64 (a : Int))] : List (Nat × Value)).toArray).run Tryd.prog W = .ok (.agg (ndC (joiN t) (lastS st) (lastS (fS (rdS st))) 0 ⟨#[]⟩ ⟨#[]⟩ (a : Int))) W)) ?_
    refine hKx _ _ rfl (CaR.of (Below.refl _ _) (by decide)) (by first | rfl | simp)
 case hfinq =>
  intro vals wr l hl hS hP
  have ez_0 : vals 0 = _ := hP 0 (by decide)
  have ez_9 : vals 9 = _ := hP 9 (by decide)
  have HSe : Hid (RdW wr B q en L (fS (rdS st))) := by
   cases hj : l 100 with
   | false => exact hS.2.2.1 hj
   | true => exact hS.2.2.2 hj
  have HKe := Lib.hid (HK0.out.trans hS.2.1)
  have hBe := Lib.hid (Nat.le_trans HBw.out HKe.out.size)
  clear hS hP hl
  try dsimp only
  rw [ez_0, ez_9]
  clear ez_0 ez_9
  refine wpAny_ready (rs := [10]) (by kernel_rfl) (by simp) (AllReady.cons rfl (fun KC hKC => ?_) AllReady.nil)
  go_simp
  go_at_call 58
  refine (pNode_c HSe.out hBe.out HFi.out ⟨joiN t, lastS st, lastS (fS (rdS st)), 0, ⟨#[]⟩, ⟨#[]⟩, (a : Int)⟩ _ rfl (fun _ => rfl)).mono ?_
  rintro e wN ⟨rfl, h9, k9⟩
  have HF := Lib.hid h9
  have HKf := Lib.hid (HKe.out.trans k9)
  refine hKC _ _ ?_
  clear hKC KC h9 k9 HSe HKe hBe
  refine wpAny_done (by kernel_rfl) ?_ _
  go_wp2
  go_end0
  have hst : joiK L fS st = nodS L ⟨joiN t, lastS st, lastS (fS (rdS st)), 0, ⟨#[]⟩, ⟨#[]⟩, (a : Int)⟩ (fS (rdS st)) := by unfold joiK; rw [hp.out]
  rw [hst]
  exact ⟨rfl, HF.out, HKf.out⟩
end
end Go.Proofs.YtheaepceghnkpaaDoor

/- What the reader of package parse does: atom. Condition: a reader that reads in memory. -/
namespace Go.Proofs.YtheaepceghnkpaaDoor
open Go.RowKit Limb
set_option linter.unusedVariables false
section
variable {w : World} {B q en : Nat} {L : Lim} {st : St}
theorem fail_tm (e p : Int) (st : St) : (failS e p st).ts = st.ts ∧ (failS e p st).mad = st.mad ∧ (failS e p st).op = st.op := by
 unfold failS
 split
 · exact ⟨rfl, rfl, rfl⟩
 · exact ⟨rfl, rfl, rfl⟩
theorem need_tm (en : Nat) (b : Bool) (st : St) : (needS en b st).ts = st.ts ∧ (needS en b st).mad = st.mad ∧ (needS en b st).op = st.op := by
 unfold needS
 split
 · exact ⟨rfl, rfl, rfl⟩
 · exact fail_tm _ _ _
theorem tak_tm (en kd : Nat) (st : St) : (takS en kd st).ts = st.ts ∧ (takS en kd st).mad = st.mad ∧ (takS en kd st).op = st.op := need_tm _ _ _
theorem unt_tm (en : Nat) (st : St) : (untS en st).ts = st.ts ∧ (untS en st).mad = st.mad ∧ (untS en st).op = st.op := by
 unfold untS
 split
 · exact tak_tm _ _ _
 · exact ⟨rfl, rfl, rfl⟩
theorem nam_tm (en : Nat) (st : St) : (namS en st).ts = st.ts ∧ (namS en st).mad = st.mad ∧ (namS en st).op = st.op := by
 have h := tak_tm en 1 (namP en st)
 have k := need_tm en (isNam (pkS st).2.1) st
 exact ⟨h.1.trans k.1, h.2.1.trans k.2.1, h.2.2.trans k.2.2⟩
theorem sgn_tm (en : Nat) (tx : List Nat) (st : St) : (sgnS en tx st).ts = st.ts ∧ (sgnS en tx st).mad = st.mad ∧ (sgnS en tx st).op = st.op := need_tm _ _ _
theorem sml_tm (en k most : Nat) (st : St) : (smlS en k most st).ts = st.ts ∧ (smlS en k most st).mad = st.mad ∧ (smlS en k most st).op = st.op := by
 unfold smlS smlP
 split
 · exact fail_tm _ _ _
 · split
   · exact fail_tm _ _ _
   · exact ⟨rfl, rfl, rfl⟩
set_option maxHeartbeats 4000000 in
set_option maxRecDepth 100000 in
theorem pAtom_c (h : RdW w B q en L st) (hB : B ≤ w.heap.size) (hop : st.op ≤ 1000) (fS : St → St) (hF0 : nextT 3 [40] st.l = true → ∀ w1, RdW w1 B q en L (opnS L st) → B ≤ w1.heap.size → Calls Tryd.prog 36 #[.pointer (some ⟨q, 0, none⟩)] w1 fun e w' => e = .returned (.tuple #[]) ∧ RdW w' B q en L (fS (opnS L st)) ∧ Kn B q w1 w') (hop1 : nextT 3 [40] st.l = true → (fS (opnS L st)).op = st.op + 1) (hfit : st.ts.length ≤ 1000000 ∧ st.mad ≤ 1000000) :
 Calls Tryd.prog 67 #[.pointer (some ⟨q, 0, none⟩)] w fun x w' => x = .returned (.tuple #[]) ∧ RdW w' B q en L (atmS L en fS st) ∧ Kn B q w w' := by
 have hF := h.pk
 obtain ⟨⟨k, t, a⟩, hp⟩ : ∃ t, t = pkS st := ⟨_, rfl⟩
 rw [← hp] at hF
 replace hp := Lib.hid hp.symm
 have hbt := Lib.hid hF.1
 have H0 := Lib.hid h
 have HBw := Lib.hid hB
 have HU := Lib.hid (fitsTk (k : Int) (strOf t) (a : Int))
 have HFS := Lib.hid hF0
 have HFi := Lib.hid hfit
 have Hop := Lib.hid hop
 have Hop1 := Lib.hid hop1
 clear h hB hF hF0 hfit hop hop1
 go_enter Tryd.func67, Tryd.ntmps67
 go_wp2_with fail
 refine (pPeek_t H0.out hp.out).mono ?_
 rintro e w2 ⟨rfl, bn⟩
 have h2 := H0.out.below bn
 have bx := below_new w2 (.cells #[.int .i64 (k : Int), .string (strOf t), .int .i64 (a : Int)] 39)
 have H2 := Lib.hid (h2.below bx)
 have K2 := Lib.hid ((Kn.below (B := B) (q := q) bn).trans (Kn.below bx))
 have hX2 := rowA_new w2 39 #[.int .i64 (k : Int), .string (strOf t), .int .i64 (a : Int)]
 have hgq : Hid (w2.heap.size ≠ q) := by show _ ≠ _; have := h2.lt; omega
 have k0 := hX2.cell (k := 0) (v := .int .i64 (k : Int)) rfl
 have HX2 := Lib.hid hX2
 clear h2 bn bx hX2
 by_cases hk : k = 2
 · have e1 : ((k : Int) == 2) = true := by rw [hk]; rfl
   have hk2 : Hid ((pkS st).1 = 2) := by show _ = _; rw [hp.out]; exact hk
   clear hk
   go_wp2_with (refine wpList_storeNew (by rfl) _ _ _ (by rfl) _ _ _ (by rfl) (by rfl) (by assumption) ?_; generalize w2.alloc (.cells #[.int .i64 (k : Int), .string (strOf t), .int .i64 (a : Int)] 39) = w3 at *)
   obtain ⟨gb, hgb⟩ : ∃ g, g = w2.heap.size := ⟨_, rfl⟩
   rw [← hgb] at hgq HX2 ⊢
   clear hgb k0 HU
   refine (pRead_c H2.out).mono ?_
   rintro e wS ⟨rfl, h4, hg⟩
   have HS := Lib.hid h4
   have HK0 := Lib.hid (K2.out.trans (Kn.of (B := B) hg))
   have HX := Lib.hid (HX2.out.grown hg (fun e => hgq.out (by injection e with e; exact e.symm)))
   clear h4 hg H2 K2 HX2 HFS
   go_wp2_with fail
   refine region_freeT 8 1 6 [some 18, some 19, some 20, some 21, some 22, some 23, some 24, some 25] ?aFqa (CaR B q en L 4 (untS en (rdS st))) (CaS wS B q en L 4 (rdS st) (untS en (rdS st)) gb (#[.int .i64 (k : Int), .string (strOf t), .int .i64 (a : Int)])) (fun k vv wx => match k with
    | 0 => vv = .pointer (some ⟨q, 0, none⟩)
    | 1 => vv = .pointer (some ⟨gb, 1, none⟩)
    | 2 => vv = .string (strOf t)
    | 3 => vv = .pointer (some ⟨q, 0, none⟩)
    | 4 => vv = .string (strOf (untX en (rdS st)))
    | 5 => vv = .pointer (some ⟨gb, 2, none⟩)
    | 6 => vv = .int .i64 (a : Int)
    | _ => vv = .agg (ndC 1 0 0 0 (strOf t) (strOf (untX en (rdS st))) (a : Int)))
    (by kernel_rfl) ?haFqa rfl (by kernel_rfl) (by kernel_rfl) (fun _ _ _ _ _ h => h) ?hSbqa ?hPbqa ?hSqa ?hopqa ?hfinqa
   case haFqa =>
    intro vals
    simp only [fillAll, dAt, Act.put, List.setIfInBounds_toArray, List.set_cons_zero, List.set_cons_succ]
    exact rfl
   case hSbqa => exact fun i l wx wy hi hl hR h => CaS.step hgq.out hl hR h
   case hPbqa =>
    intro k j v wa wb hk hkj hb h
    match j, h with
    | 0, h => exact h
    | 1, h => exact h
    | 2, h => exact h
    | 3, h => exact h
    | 4, h => exact h
    | 5, h => exact h
    | 6, h => exact h
    | _ + 7, h => exact h
   case hSqa => exact ⟨HX.out.drew, Kn.below (Below.refl _ _).drew, fun _ => HS.out.below (Below.refl _ _).drew, fun e => by cases e⟩
   case hopqa =>
    refine .cons (k := 0) ?_ (.cons (k := 1) ?_ (.cons (k := 2) ?_ (.cons (k := 3) ?_ (.cons (k := 4) ?_ (.cons (k := 5) ?_ (.cons (k := 6) ?_ (.cons (k := 7) ?_ (.nil))))))))
    all_goals intro vals wr l hl hS hd KC hKx
    all_goals (show Oper.wp _ _ _ _ _ _; dsimp only)
    · go_simp
      refine hKx _ _ rfl (CaR.of (Below.refl _ _) (by decide)) (by first | rfl | simp)
    · go_simp
      refine hKx _ _ rfl (CaR.of (Below.refl _ _) (by decide)) (by first | rfl | simp)
    · have d1 : vals 1 = _ := hd 1 (by decide +kernel)
      rw [d1]
      have z0 := hS.1.cell (k := 1) (v := .string (strOf t)) rfl
      go_simp
      refine hKx _ _ rfl (CaR.of (Below.refl _ _) (by decide)) (by first | rfl | simp)
    · go_simp
      refine hKx _ _ rfl (CaR.of (Below.refl _ _) (by decide)) (by first | rfl | simp)
    · have d3 : vals 3 = _ := hd 3 (by decide +kernel)
      rw [d3]
      have HSx := Lib.hid (hS.2.2.1 hl)
      go_simp
      go_at_call 45
      refine (pUnits_c HSx.out).mono ?_
      rintro e w9 ⟨rfl, h9, hg9⟩
      refine hKx _ _ rfl (CaR.at h9 (Kn.of hg9)) rfl
    · go_simp
      refine hKx _ _ rfl (CaR.of (Below.refl _ _) (by decide)) (by first | rfl | simp)
    · have d5 : vals 5 = _ := hd 5 (by decide +kernel)
      rw [d5]
      have z0 := hS.1.cell (k := 2) (v := .int .i64 (a : Int)) rfl
      go_simp
      refine hKx _ _ rfl (CaR.of (Below.refl _ _) (by decide)) (by first | rfl | simp)
    · have d2 : vals 2 = _ := hd 2 (by decide +kernel)
      have d4 : vals 4 = _ := hd 4 (by decide +kernel)
      have d6 : vals 6 = _ := hd 6 (by decide +kernel)
      rw [d2, d4, d6]
      refine wp_buildV _ _ rfl _ (by rfl) _ (Lib.hid (fun W => by kernel_rfl : ∀ W, (Instr.build 51 ([(0, .int .i64 1), (4, .string (strOf t)), (5, .string (strOf (untX en (rdS st)))), (6, .int .i64 (a : Int))] : List (Nat × Value)).toArray).run Tryd.prog W = .ok (.agg (ndC 1 0 0 0 (strOf t) (strOf (untX en (rdS st))) (a : Int))) W)) ?_
      refine hKx _ _ rfl (CaR.of (Below.refl _ _) (by decide)) (by first | rfl | simp)
   case hfinqa =>
    intro vals wr l hl hS hP
    have ez_0 : vals 0 = _ := hP 0 (by decide)
    have ez_7 : vals 7 = _ := hP 7 (by decide)
    have HSe := Lib.hid (hS.2.2.2 (hl 4 (by decide)))
    have HKe := Lib.hid (HK0.out.trans hS.2.1)
    have hBe := Lib.hid (Nat.le_trans HBw.out HKe.out.size)
    clear hS hP hl
    try dsimp only
    rw [ez_0, ez_7]
    clear ez_0 ez_7
    refine wpAny_ready (rs := [8]) (by kernel_rfl) (by simp) (AllReady.cons rfl (fun KC hKC => ?_) AllReady.nil)
    go_simp
    go_at_call 58
    refine (pNode_c HSe.out hBe.out (by rw [(unt_tm en (rdS st)).1, (unt_tm en (rdS st)).2.1]; exact HFi.out) ⟨1, 0, 0, 0, strOf t, strOf (untX en (rdS st)), (a : Int)⟩ _ rfl (fun _ => rfl)).mono ?_
    rintro e wN ⟨rfl, h9, k9⟩
    have HF := Lib.hid h9
    have HKf := Lib.hid (HKe.out.trans k9)
    refine hKC _ _ ?_
    clear hKC KC h9 k9 HSe HKe hBe
    refine wpAny_done (by kernel_rfl) ?_ _
    go_wp2
    go_end0
    have hst : atmS L en fS st = nodS L ⟨1, 0, 0, 0, strOf t, strOf (untX en (rdS st)), (a : Int)⟩ (untS en (rdS st)) := by unfold atmS; rw [if_pos hk2.out, hp.out]
    rw [hst]
    exact ⟨rfl, HF.out, HKf.out⟩
 · have e1 : ((k : Int) == 2) = false := by rw [beq_eq_false_iff_ne]; omega
   have hk2 : Hid (¬ (pkS st).1 = 2) := by show ¬ _; rw [hp.out]; exact hk
   clear hk
   cases hs : nextT 3 [40] st.l with
   | true =>
    have Hs := Lib.hid hs
    clear hs
    go_wp2_with (refine wpList_storeNew (by rfl) _ _ _ (by rfl) _ _ _ (by rfl) (by rfl) (by assumption) ?_; generalize w2.alloc (.cells #[.int .i64 (k : Int), .string (strOf t), .int .i64 (a : Int)] 39) = w3 at *)
    obtain ⟨gb, hgb⟩ : ∃ g, g = w2.heap.size := ⟨_, rfl⟩
    rw [← hgb] at hgq HX2 ⊢
    clear hgb k0 HU
    refine (pSees_c H2.out 40 (by decide) _ Hs.out).mono ?_
    rintro e w4 ⟨rfl, bn⟩
    have H4 := Lib.hid (H2.out.below bn)
    have K4 := Lib.hid (K2.out.trans (Kn.below bn))
    clear bn H2 K2 HX2
    go_wp2_with fail
    refine (pOpen_c H4.out Hop.out (Nat.le_trans HBw.out K4.out.size)).mono ?_
    rintro e w5 ⟨rfl, h5, hg⟩
    have H5 := Lib.hid h5
    have K5 := Lib.hid (K4.out.trans (Kn.of (B := B) hg))
    clear h5 hg H4 K4
    go_wp2_with fail
    refine (HFS.out Hs.out w5 H5.out (Nat.le_trans HBw.out K5.out.size)).mono ?_
    rintro e w6 ⟨rfl, h6, hk6⟩
    have H6 := Lib.hid h6
    have K6 := Lib.hid (K5.out.trans hk6)
    clear h6 hk6 H5 K5
    go_wp2_with fail
    refine (pSign_c H6.out 41 (by decide)).mono ?_
    rintro e w7 ⟨rfl, h7, hg⟩
    have H7 := Lib.hid h7
    have K7 := Lib.hid (K6.out.trans (Kn.of (B := B) hg))
    clear h7 hg H6 K6
    have hop2 : (sgnS en [41] (fS (opnS L st))).op = st.op + 1 := (sgn_tm en [41] _).2.2.trans (Hop1.out Hs.out)
    obtain ⟨k10, f10⟩ := H7.out.cell10
    rw [hop2] at k10
    have eop : ((st.op + 1 : Nat) : Int) - 1 = (st.op : Int) := by omega
    have hop6 : ((st.op + 1 : Nat) : Int) ≤ 1000000 := by have := Hop.out; omega
    have hop0 : (1 : Int) ≤ ((st.op + 1 : Nat) : Int) := by omega
    have HD := Lib.hid (H7.out.depth st.op)
    have KD := Lib.hid (K7.out.trans (Kn.of (B := B) (grown_set w7 q 10 (.int .i64 (st.op : Int)))))
    have hst : Hid (atmS L en fS st = { sgnS en [41] (fS (opnS L st)) with op := st.op }) := by
     show _ = _
     unfold atmS
     rw [if_neg hk2.out, if_pos Hs.out]
     unfold shtS
     rw [hop2]; rfl
    generalize ((st.op + 1 : Nat) : Int) = opz at *
    go_wp2
    go_end0
    rw [hst.out]
    exact ⟨rfl, HD.out, KD.out⟩
   | false =>
    have Hs := Lib.hid hs
    clear hs
    go_wp2_with (refine wpList_storeNew (by rfl) _ _ _ (by rfl) _ _ _ (by rfl) (by rfl) (by assumption) ?_; generalize w2.alloc (.cells #[.int .i64 (k : Int), .string (strOf t), .int .i64 (a : Int)] 39) = w3 at *)
    obtain ⟨gb, hgb⟩ : ∃ g, g = w2.heap.size := ⟨_, rfl⟩
    rw [← hgb] at hgq HX2 ⊢
    clear hgb k0 HU
    refine (pSees_c H2.out 40 (by decide) _ Hs.out).mono ?_
    rintro e wS ⟨rfl, bn⟩
    have HS := Lib.hid (H2.out.below bn)
    have HK0 := Lib.hid (K2.out.trans (Kn.below bn))
    have HX := Lib.hid (HX2.out.below bn)
    clear bn H2 K2 HX2 HFS
    go_wp2_with fail
    refine region_freeT 6 1 6 [some 5, some 6, some 7, some 8, some 9, some 10] ?aFqb (CaR B q en L 2 (namS en st)) (CaS wS B q en L 2 (st) (namS en st) gb (#[.int .i64 (k : Int), .string (strOf t), .int .i64 (a : Int)])) (fun k vv wx => match k with
     | 0 => vv = .pointer (some ⟨q, 0, none⟩)
     | 1 => vv = .pointer (some ⟨q, 0, none⟩)
     | 2 => vv = .string (strOf (namX en st))
     | 3 => vv = .pointer (some ⟨gb, 2, none⟩)
     | 4 => vv = .int .i64 (a : Int)
     | _ => vv = .agg (ndC 2 0 0 0 (strOf (namX en st)) ⟨#[]⟩ (a : Int)))
     (by kernel_rfl) ?haFqb rfl (by kernel_rfl) (by kernel_rfl) (fun _ _ _ _ _ h => h) ?hSbqb ?hPbqb ?hSqb ?hopqb ?hfinqb
    case haFqb =>
     intro vals
     simp only [fillAll, dAt, Act.put, List.setIfInBounds_toArray, List.set_cons_zero, List.set_cons_succ]
     exact rfl
    case hSbqb => exact fun i l wx wy hi hl hR h => CaS.step hgq.out hl hR h
    case hPbqb =>
     intro k j v wa wb hk hkj hb h
     match j, h with
     | 0, h => exact h
     | 1, h => exact h
     | 2, h => exact h
     | 3, h => exact h
     | 4, h => exact h
     | _ + 5, h => exact h
    case hSqb => exact ⟨HX.out.drew, Kn.below (Below.refl _ _).drew, fun _ => HS.out.below (Below.refl _ _).drew, fun e => by cases e⟩
    case hopqb =>
     refine .cons (k := 0) ?_ (.cons (k := 1) ?_ (.cons (k := 2) ?_ (.cons (k := 3) ?_ (.cons (k := 4) ?_ (.cons (k := 5) ?_ (.nil))))))
     all_goals intro vals wr l hl hS hd KC hKx
     all_goals (show Oper.wp _ _ _ _ _ _; dsimp only)
     · go_simp
       refine hKx _ _ rfl (CaR.of (Below.refl _ _) (by decide)) (by first | rfl | simp)
     · go_simp
       refine hKx _ _ rfl (CaR.of (Below.refl _ _) (by decide)) (by first | rfl | simp)
     · have d1 : vals 1 = _ := hd 1 (by decide +kernel)
       rw [d1]
       have HSx := Lib.hid (hS.2.2.1 hl)
       go_simp
       go_at_call 30
       refine (pName_c HSx.out).mono ?_
       rintro e w9 ⟨rfl, h9, hg9⟩
       refine hKx _ _ rfl (CaR.at h9 (Kn.of hg9)) rfl
     · go_simp
       refine hKx _ _ rfl (CaR.of (Below.refl _ _) (by decide)) (by first | rfl | simp)
     · have d3 : vals 3 = _ := hd 3 (by decide +kernel)
       rw [d3]
       have z0 := hS.1.cell (k := 2) (v := .int .i64 (a : Int)) rfl
       go_simp
       refine hKx _ _ rfl (CaR.of (Below.refl _ _) (by decide)) (by first | rfl | simp)
     · have d2 : vals 2 = _ := hd 2 (by decide +kernel)
       have d4 : vals 4 = _ := hd 4 (by decide +kernel)
       rw [d2, d4]
       refine wp_buildV _ _ rfl _ (by rfl) _ (Lib.hid (fun W => by kernel_rfl : ∀ W, (Instr.build 51 ([(0, .int .i64 2), (4, .string (strOf (namX en st))), (6, .int .i64 (a : Int))] : List (Nat × Value)).toArray).run Tryd.prog W = .ok (.agg (ndC 2 0 0 0 (strOf (namX en st)) ⟨#[]⟩ (a : Int))) W)) ?_
       refine hKx _ _ rfl (CaR.of (Below.refl _ _) (by decide)) (by first | rfl | simp)
    case hfinqb =>
     intro vals wr l hl hS hP
     have ez_0 : vals 0 = _ := hP 0 (by decide)
     have ez_5 : vals 5 = _ := hP 5 (by decide)
     have HSe := Lib.hid (hS.2.2.2 (hl 2 (by decide)))
     have HKe := Lib.hid (HK0.out.trans hS.2.1)
     have hBe := Lib.hid (Nat.le_trans HBw.out HKe.out.size)
     clear hS hP hl
     try dsimp only
     rw [ez_0, ez_5]
     clear ez_0 ez_5
     refine wpAny_ready (rs := [6]) (by kernel_rfl) (by simp) (AllReady.cons rfl (fun KC hKC => ?_) AllReady.nil)
     go_simp
     go_at_call 58
     refine (pNode_c HSe.out hBe.out (by rw [(nam_tm en st).1, (nam_tm en st).2.1]; exact HFi.out) ⟨2, 0, 0, 0, strOf (namX en st), ⟨#[]⟩, (a : Int)⟩ _ rfl (fun _ => rfl)).mono ?_
     rintro e wN ⟨rfl, h9, k9⟩
     have HF := Lib.hid h9
     have HKf := Lib.hid (HKe.out.trans k9)
     refine hKC _ _ ?_
     clear hKC KC h9 k9 HSe HKe hBe
     refine wpAny_done (by kernel_rfl) ?_ _
     go_wp2
     go_end0
     have hst : atmS L en fS st = nodS L ⟨2, 0, 0, 0, strOf (namX en st), ⟨#[]⟩, (a : Int)⟩ (namS en st) := by unfold atmS; rw [if_neg hk2.out, Hs.out, if_neg (by decide), hp.out]
     rw [hst]
     exact ⟨rfl, HF.out, HKf.out⟩
end
end Go.Proofs.YtheaepceghnkpaaDoor

/- What the reader of package parse does: power. Condition: a reader that reads in memory. -/
namespace Go.Proofs.YtheaepceghnkpaaDoor
open Go.RowKit Limb
set_option linter.unusedVariables false
section
variable {w : World} {B q en : Nat} {L : Lim} {st : St}
theorem sml_le {en k most : Nat} {st : St} (h : (smlS en k most st).E = 0) : (smlV k st).getD 0 ≤ most := by
 unfold smlS smlP at h
 split at h
 · exact absurd h (refS_E en st)
 · rename_i v hv
   rw [hv]
   split at h
   · exfalso
     have h2 : (failS 2 (pkS st).2.2 st).E = 0 := h
     unfold failS at h2
     split at h2
     · cases h2
     · rename_i h3; exact h3 h2
   · show v ≤ most; omega
theorem gr_new {w w' : World} {q g : Nat} (h : w.grownBy w' (some q)) (hg : w.heap.size ≤ g) (k : Nat) (v : Value) : w.grownBy (w'.setCell ⟨g, k, none⟩ v) (some q) :=
 ⟨h.os, h.tape, h.output, by simpa using h.size, fun i hi hr => (Below.heap_setCell w' _ v i (by simp; omega)).trans (h.block i hi hr)⟩
theorem RdW.setN (h : RdW w B q en L st) {g : Nat} {U : Array Value} (hr : RowA w g 51 U) (hne : g ≠ q) (hgB : B ≤ g) (h8 : ∀ C m d, w.cell? ⟨q, 8, none⟩ = some (.slice C m d) → Value.ownBlock (.slice C m d) ≠ some g) (k : Nat) (v : Value) : RdW (w.setCell ⟨g, k, none⟩ v) B q en L st := by
 obtain ⟨A, n, c, C, m, d, ts, h1, h2, h3, h4, h5, h6, h7, h9⟩ := h
 have hg := grown_set w g k v
 have ho := h8 C m d (h1.cell (k := 8) rfl)
 refine ⟨A, n, c, C, m, d, ts, h1.grown hg (fun e => hne (by injection e)), ⟨h2.1, h2.2.1, h2.2.2.1, fun h0 => ?_⟩, ⟨h3.1, h3.2.over hg (fun x e => by cases e; exact ho)⟩, h4, h5, h6, ?_, h9⟩
 · obtain ⟨g2, o, V, e, hb, hr2, hc⟩ := h2.2.2.2 h0
   have hr3 := hr2.grown hg (fun e => by injection e with e; omega)
   exact ⟨g2, o, V, e, hb, hr3, fun i t hi => inV_row (hc i t hi) hr2 hr3⟩
 · refine ⟨h7.1.same fun b i v hb hc => ?_, h7.2⟩
   have e := hg.block b (kcell_lt hc) (fun e => by injection e with e; have := h7.2; omega)
   rw [← hc]
   simp [World.cell?, e]
set_option maxHeartbeats 4000000 in
set_option maxRecDepth 100000 in
theorem pPower_c (h : RdW w B q en L st) (hB : B ≤ w.heap.size) (hL : L.power ≤ 64) (hfit : st.ts.length ≤ 1000000 ∧ st.mad ≤ 1000000) :
 Calls Tryd.prog 68 #[.pointer (some ⟨q, 0, none⟩)] w fun x w' => x = .returned (.tuple #[]) ∧ RdW w' B q en L (powS L en st) ∧ Kn B q w w' := by
 obtain ⟨⟨k, t, a⟩, hp⟩ : ∃ t, t = pkS st := ⟨_, rfl⟩
 replace hp := Lib.hid hp.symm
 have H0 := Lib.hid h
 have HBw := Lib.hid hB
 have hB2 : Hid (∀ g, w.heap.size ≤ g → B ≤ g) := fun g hg => Nat.le_trans hB hg
 have HU : Hid (Many Tryd.prog 51 (ndC 8 (lastS st) 0 0 ⟨#[]⟩ ⟨#[]⟩ (a : Int)).size ∧ zN.size = (ndC 8 (lastS st) 0 0 ⟨#[]⟩ ⟨#[]⟩ (a : Int)).size ∧ ∀ v ∈ ndC 8 (lastS st) 0 0 ⟨#[]⟩ ⟨#[]⟩ (a : Int), v.oneCell' = true) := ⟨manyNd _ _ _ _ _ _ _, rfl, by simp [Value.oneCell']⟩
 have hfld := fun W => (fldTk (k : Int) (strOf t) (a : Int) W).2.2
 have HBd : Hid (∀ W, (Instr.build 51 ([(0, .int .i64 8), (1, .int .i64 (lastS st)), (6, .int .i64 (a : Int))] : List (Nat × Value)).toArray).run Tryd.prog W = .ok (.agg (ndC 8 (lastS st) 0 0 ⟨#[]⟩ ⟨#[]⟩ (a : Int))) W) := fun W => by kernel_rfl
 have HFi := Lib.hid hfit
 have hLp := Lib.hid hL
 obtain ⟨A0, n0, c0, C, m, d, ts0, r1, r2, r3, r4, r5, r6, r7, r8⟩ := id h
 have hc8 := Lib.hid (r1.cell (k := 8) (v := .slice C m d) rfl)
 have hox : Hid (∀ g, w.heap.size ≤ g → Value.ownBlock (.slice C m d) ≠ some g) := fun g hg e => by have := (r3.2.lt _ e).2; omega
 have Hq0 := Lib.hid h.lt
 clear h hB hfit hL r1 r2 r3 r4 r5 r6 r7 r8
 go_enter Tryd.func68, Tryd.ntmps68
 go_wp2_with fail
 refine (pLast_c H0.out).mono ?_
 rintro e w1 ⟨rfl, rfl⟩
 go_wp2_with fail
 refine (pRead_tx H0.out hp.out).mono ?_
 rintro e w2 ⟨rfl, h2, hg, h8⟩
 have bx := below_new w2 (.cells (ndC 8 (lastS st) 0 0 ⟨#[]⟩ ⟨#[]⟩ (a : Int)) 51)
 have H2 := Lib.hid (h2.below bx)
 have K2 := Lib.hid ((Kn.of (B := B) hg).trans (Kn.below bx))
 have G2 := Lib.hid (gr_trans hg (gr_of bx (some q)))
 have HX2 := Lib.hid (rowA_new w2 51 (ndC 8 (lastS st) 0 0 ⟨#[]⟩ ⟨#[]⟩ (a : Int)))
 have hgq : Hid (w2.heap.size ≠ q) := by show _ ≠ _; have := h2.lt; omega
 have C2 := Lib.hid (h8.trans (C8.below bx h2.lt))
 have hgw : Hid (w1.heap.size ≤ w2.heap.size) := hg.size
 clear h2 hg bx h8
 go_wp2_with (first | (refine wpList_buildV (by rfl) _ _ (by rfl) _ (by rfl) _ (by assumption) ?_) | (refine wpList_storeNew (by rfl) _ _ _ (by rfl) _ _ _ (by rfl) (by rfl) (by assumption) ?_; generalize w2.alloc (.cells (ndC 8 (lastS st) 0 0 ⟨#[]⟩ ⟨#[]⟩ (a : Int)) 51) = w3 at *))
 obtain ⟨gb, hgb⟩ : ∃ g, g = w2.heap.size := ⟨_, rfl⟩
 rw [← hgb] at hgq HX2 hgw ⊢
 clear hgb HU HBd hfld
 cases hs : nextT 3 [45] (rdS st).l with
 | true =>
  have Hs := Lib.hid hs
  clear hs
  refine (pSees_c H2.out 45 (by decide) _ Hs.out).mono ?_
  rintro e w4 ⟨rfl, bn⟩
  have H4 := Lib.hid (H2.out.below bn)
  have G4 := Lib.hid (gr_trans G2.out (gr_of bn (some q)))
  have X4 := Lib.hid (HX2.out.below bn)
  have C4 := Lib.hid (C2.out.trans (C8.below bn H2.out.lt))
  clear bn H2 K2 HX2 G2 C2
  go_wp2_with fail
  refine (pRead_x H4.out).mono ?_
  rintro e w5 ⟨rfl, h5, hg, h8⟩
  have C5 := Lib.hid (C4.out.trans h8)
  have H5 := Lib.hid h5
  have G5 := Lib.hid (gr_trans G4.out hg)
  have X5 := Lib.hid (X4.out.grown hg (fun e => hgq.out (by injection e with e; exact e.symm)))
  clear h5 hg h8 H4 G4 X4 C4
  obtain ⟨A, n, c, C, m, d, hr0⟩ := H5.out.size
  have k5 := hr0.cell (k := 5) (v := .int .i64 (L.power : Int)) rfl
  clear hr0
  go_wp2_with fail
  refine (pSmall_c H5.out 3 L.power (by decide)).mono ?_
  rintro e w6 ⟨N, rfl, hN, h6, hg, h8⟩
  have HN := Lib.hid hN
  have H6 := Lib.hid h6
  have G6 := Lib.hid (gr_trans G5.out hg)
  have C6 := C5.out.trans h8
  have X6 := X5.out.grown hg (fun e => hgq.out (by injection e with e; exact e.symm))
  have f3 := X6.free 3
  have c3 := X6.cell (k := 3) (v := .int .i64 0) rfl
  obtain ⟨M, hM⟩ : ∃ M, M = wrap64 (-N) := ⟨_, rfl⟩
  unfold C8 at C6
  rw [hc8.out] at C6
  have HS := Lib.hid (h6.setN X6 hgq.out (hB2.out gb hgw.out) (fun C2 m2 d2 e => by rw [C6] at e; injection e with e; rw [← e]; exact hox.out gb hgw.out) 3 (.int .i64 M))
  have KS := Lib.hid (Kn.of (B := B) (gr_new G6.out hgw.out 3 (.int .i64 M)))
  have XS : Hid (InV (w6.setCell ⟨gb, 3, none⟩ (.int .i64 M)) gb 0 (ndC 8 (lastS st) 0 M ⟨#[]⟩ ⟨#[]⟩ (a : Int))) := (X6.set 3 (.int .i64 M)).inV
  have HM := Lib.hid (manyNd 8 (lastS st) 0 M ⟨#[]⟩ ⟨#[]⟩ (a : Int))
  have HMv := Lib.hid hM
  clear hN h6 hg h8 H5 G5 X5 C5 k5 C6 X6 H6 G6
  skip
  skip
  have eM := hM.symm
  clear hM
  go_wp2_with (refine wpList_loadV (by rfl) _ _ (by rfl) _ _ (by rfl) _ (by assumption) (by assumption) ?_)
  generalize w6.setCell ⟨gb, 3, none⟩ (.int .i64 M) = w7 at *
  have hx : (smlS en 3 L.power (rdS (rdS st))).E = 0 → (⟨8, lastS st, 0, M, ⟨#[]⟩, ⟨#[]⟩, (a : Int)⟩ : Nd) = ⟨8, lastS st, 0, (if true = true then -((smlV 3 (rdS (rdS st))).getD 0 : Int) else ((smlV 3 (rdS (rdS st))).getD 0 : Int)), ⟨#[]⟩, ⟨#[]⟩, (a : Int)⟩ := fun e => by
   have h1 := HN.out e
   have h2 := sml_le e
   have h3 : M = -(((smlV 3 (rdS (rdS st))).getD 0 : Nat) : Int) := by rw [HMv.out, h1]; exact IntWalk.wrap64_in _ (by have := hLp.out; omega)
   rw [h3]; rfl
  refine (pNode_c HS.out (Nat.le_trans HBw.out KS.out.size) (by rw [(sml_tm en 3 L.power _).1, (sml_tm en 3 L.power _).2.1]; exact HFi.out) ⟨8, lastS st, 0, M, ⟨#[]⟩, ⟨#[]⟩, (a : Int)⟩ ⟨8, lastS st, 0, (if true = true then -((smlV 3 (rdS (rdS st))).getD 0 : Int) else ((smlV 3 (rdS (rdS st))).getD 0 : Int)), ⟨#[]⟩, ⟨#[]⟩, (a : Int)⟩ rfl hx).mono ?_
  rintro e w8 ⟨rfl, h8, k8⟩
  have hst : powS L en st = powM L en true (lastS st) (a : Int) (rdS (rdS st)) := by unfold powS; rw [Hs.out, hp.out]; rfl
  go_wp2
  go_end0
  rw [hst]
  exact ⟨rfl, h8, KS.out.trans k8⟩
 | false =>
  have Hs := Lib.hid hs
  clear hs
  refine (pSees_c H2.out 45 (by decide) _ Hs.out).mono ?_
  rintro e w4 ⟨rfl, bn⟩
  have H4 := Lib.hid (H2.out.below bn)
  have G4 := Lib.hid (gr_trans G2.out (gr_of bn (some q)))
  have X4 := Lib.hid (HX2.out.below bn)
  have C4 := Lib.hid (C2.out.trans (C8.below bn H2.out.lt))
  clear bn H2 K2 HX2 G2 C2
  have H5 := Lib.hid H4.out
  have G5 := Lib.hid G4.out
  have X5 := Lib.hid X4.out
  have C5 := Lib.hid C4.out
  clear H4 G4 X4 C4
  generalize w4 = w5 at *
  obtain ⟨A, n, c, C, m, d, hr0⟩ := H5.out.size
  have k5 := hr0.cell (k := 5) (v := .int .i64 (L.power : Int)) rfl
  clear hr0
  go_wp2_with fail
  refine (pSmall_c H5.out 3 L.power (by decide)).mono ?_
  rintro e w6 ⟨N, rfl, hN, h6, hg, h8⟩
  have HN := Lib.hid hN
  have H6 := Lib.hid h6
  have G6 := Lib.hid (gr_trans G5.out hg)
  have C6 := C5.out.trans h8
  have X6 := X5.out.grown hg (fun e => hgq.out (by injection e with e; exact e.symm))
  have f3 := X6.free 3
  have c3 := X6.cell (k := 3) (v := .int .i64 0) rfl
  obtain ⟨M, hM⟩ : ∃ M, M = wrap64 N := ⟨_, rfl⟩
  unfold C8 at C6
  rw [hc8.out] at C6
  have HS := Lib.hid (h6.setN X6 hgq.out (hB2.out gb hgw.out) (fun C2 m2 d2 e => by rw [C6] at e; injection e with e; rw [← e]; exact hox.out gb hgw.out) 3 (.int .i64 M))
  have KS := Lib.hid (Kn.of (B := B) (gr_new G6.out hgw.out 3 (.int .i64 M)))
  have XS : Hid (InV (w6.setCell ⟨gb, 3, none⟩ (.int .i64 M)) gb 0 (ndC 8 (lastS st) 0 M ⟨#[]⟩ ⟨#[]⟩ (a : Int))) := (X6.set 3 (.int .i64 M)).inV
  have HM := Lib.hid (manyNd 8 (lastS st) 0 M ⟨#[]⟩ ⟨#[]⟩ (a : Int))
  have HMv := Lib.hid hM
  clear hN h6 hg h8 H5 G5 X5 C5 k5 C6 X6 H6 G6
  skip
  skip
  have eM := hM.symm
  clear hM
  go_wp2_with (refine wpList_loadV (by rfl) _ _ (by rfl) _ _ (by rfl) _ (by assumption) (by assumption) ?_)
  generalize w6.setCell ⟨gb, 3, none⟩ (.int .i64 M) = w7 at *
  have hx : (smlS en 3 L.power (rdS st)).E = 0 → (⟨8, lastS st, 0, M, ⟨#[]⟩, ⟨#[]⟩, (a : Int)⟩ : Nd) = ⟨8, lastS st, 0, (if false = true then -((smlV 3 (rdS st)).getD 0 : Int) else ((smlV 3 (rdS st)).getD 0 : Int)), ⟨#[]⟩, ⟨#[]⟩, (a : Int)⟩ := fun e => by
   have h1 := HN.out e
   have h2 := sml_le e
   have h3 : M = (((smlV 3 (rdS st)).getD 0 : Nat) : Int) := by rw [HMv.out, h1]; exact IntWalk.wrap64_in _ (by have := hLp.out; omega)
   rw [h3]; rfl
  refine (pNode_c HS.out (Nat.le_trans HBw.out KS.out.size) (by rw [(sml_tm en 3 L.power _).1, (sml_tm en 3 L.power _).2.1]; exact HFi.out) ⟨8, lastS st, 0, M, ⟨#[]⟩, ⟨#[]⟩, (a : Int)⟩ ⟨8, lastS st, 0, (if false = true then -((smlV 3 (rdS st)).getD 0 : Int) else ((smlV 3 (rdS st)).getD 0 : Int)), ⟨#[]⟩, ⟨#[]⟩, (a : Int)⟩ rfl hx).mono ?_
  rintro e w8 ⟨rfl, h8, k8⟩
  have hst : powS L en st = powM L en false (lastS st) (a : Int) (rdS st) := by unfold powS; rw [Hs.out, hp.out]; rfl
  go_wp2
  go_end0
  rw [hst]
  exact ⟨rfl, h8, KS.out.trans k8⟩
end
end Go.Proofs.YtheaepceghnkpaaDoor

/- What the reader of package parse does: term, formula. Condition: a reader that reads in memory. -/
namespace Go.Proofs.YtheaepceghnkpaaDoor
open Go.RowKit Limb
set_option linter.unusedVariables false
section
variable {w : World} {B q en : Nat} {L : Lim} {st : St}
def tlen (q : Nat) (w : World) : Nat := match w.cell? ⟨q, 0, none⟩ with
 | some (.slice _ n _) => n
 | _ => 0
theorem tlen_is {w : World} {B q en : Nat} {L : Lim} {st : St} (h : RdW w B q en L st) : tlen q w = st.l.length := by
 obtain ⟨A, n, c, C, m, d, ts, h1, h2, _⟩ := h
 unfold tlen
 rw [h1.cell (k := 0) (v := .slice A n c) rfl]
 exact h2.1
structure Fu (L : Lim) (k : Nat) (st : St) : Prop where
 one : 1 ≤ k
 deep : st.l ≠ [] → st.op ≤ L.deep ∧ L.deep + 2 ≤ k + st.op
 op : st.op ≤ 100
 ts : st.ts.length + mu st.l ≤ 90000
 mad : st.mad + mu st.l ≤ 90000
theorem Fu.rd {L : Lim} {k : Nat} {st : St} (h : Fu L k st) : Fu L k (rdS st) := by
 have hm : mu st.l.tail ≤ mu st.l := mu_le (by simp)
 have h1 := h.ts
 have h2 := h.mad
 refine ⟨h.one, fun hn => h.deep (fun e => hn (by show st.l.tail = []; rw [e]; rfl)), h.op, ?_, ?_⟩
 · show st.ts.length + mu st.l.tail ≤ _; omega
 · show st.mad + mu st.l.tail ≤ _; omega
theorem Fu.cn {L : Lim} {k : Nat} {st s : St} (h : Fu L k st) (hn : st.l ≠ []) (hc : Cn 0 st s) : Fu L k s := by
 have h1 := hc.cnt
 have h2 := hc.mad
 have h3 := hc.op
 have h4 := h.ts
 have h5 := h.mad
 have h6 := h.deep hn
 exact ⟨h.one, fun _ => by rw [h3]; exact h6, by rw [h3]; exact h.op, by omega, by omega⟩
theorem fit_of {c : Nat} {st s : St} (hc : Cn c st s) (h : st.ts.length + mu st.l ≤ 90000) (h2 : st.mad + mu st.l ≤ 90000) (h3 : c ≤ 10) : s.ts.length ≤ 1000000 ∧ s.mad ≤ 1000000 := by
 have h1 := hc.cnt
 have h4 := hc.mad
 omega
theorem opn_fu {L : Lim} {k : Nat} {st : St} (hL : L.Fit) (h : Fu L (k + 1) st) (hn : st.l ≠ []) (hi : st.E ≠ 0 → st.l = []) : Fu L k (opnS L st) := by
 have hd := h.deep hn
 obtain ⟨ho, hop⟩ := opn_co L hn
 have h1 := ho.cnt
 have h2 := ho.mad
 have h4 := h.ts
 have h5 := h.mad
 have h6 := hL.2.2.1
 refine ⟨by omega, fun hl => ?_, by rw [hop]; omega, by omega, by omega⟩
 rw [hop]
 have hlt : st.op ≠ L.deep := by
  intro e
  apply hl
  unfold opnS opnP
  rw [if_pos e]
  have he : st.E = 0 := Classical.byContradiction fun h => hn (hi h)
  unfold failS
  rw [if_pos he]; rfl
 omega
def FacOk (B q en : Nat) (L : Lim) (k : Nat) (fS : St → St) : Prop := ∀ (w : World) (st : St), RdW w B q en L st → B ≤ w.heap.size → Fu L k st → Calls Tryd.prog 56 #[.pointer (some ⟨q, 0, none⟩)] w fun e w' => e = .returned (.tuple #[]) ∧ RdW w' B q en L (fS st) ∧ Kn B q w w'
def TrmOk (B q en : Nat) (L : Lim) (k : Nat) (fS : St → St) : Prop := ∀ (w : World) (st : St), RdW w B q en L st → B ≤ w.heap.size → Fu L k st → Calls Tryd.prog 47 #[.pointer (some ⟨q, 0, none⟩)] w fun e w' => e = .returned (.tuple #[]) ∧ RdW w' B q en L (fS st) ∧ Kn B q w w'
def FrmOk (B q en : Nat) (L : Lim) (k : Nat) (fS : St → St) : Prop := ∀ (w : World) (st : St), RdW w B q en L st → B ≤ w.heap.size → Fu L k st → Calls Tryd.prog 36 #[.pointer (some ⟨q, 0, none⟩)] w fun e w' => e = .returned (.tuple #[]) ∧ RdW w' B q en L (fS st) ∧ Kn B q w w'
set_option maxHeartbeats 4000000 in
set_option maxRecDepth 100000 in
theorem pTerm_c {B q en : Nat} {L : Lim} {k : Nat} {fS : St → St} (hgood : Good1 fS) (hok : FacOk B q en L k fS) : TrmOk B q en L k (rowK L fS mulB) := by
 intro w st h hB hfu
 have hmf : ∀ (fn : Fn) (first cap : Array Value) (w : World), (Instr.makeFunc fn first cap).run Tryd.prog w = .ok (.func fn first cap) w := fun _ _ _ _ => rfl
 have HMF := Lib.hid hmf
 clear hmf
 have HT : Hid (∃ T, T = rowK L (fS) mulB st) := ⟨_, rfl⟩
 obtain ⟨T, hT⟩ := HT.out
 have HT2 := Lib.hid hT
 have hg := Lib.hid hgood
 have HO := Lib.hid hok
 have HBw := Lib.hid hB
 have HFu := Lib.hid hfu
 have H0 := Lib.hid h
 have HE : Hid (rowK L (fS) mulB st = T) := hT.symm
 clear h hB hfu hT HT hgood hok
 go_enter Tryd.func47, Tryd.ntmps47
 go_wp2_with fail
 refine (HO.out w st H0.out HBw.out HFu.out).mono ?_
 rintro e w1 ⟨rfl, h1, k1⟩
 have H1 := Lib.hid h1
 have K1 := Lib.hid k1
 have HL1 : Hid (lopK L (fS) mulB (fS st).l.length (fS st) = T) := HE.out
 have HF1 : Hid ((fS st).l ≠ [] → Fu L k (fS st)) := by
  intro hn
  have hc := hg.out st
  have hn0 : st.l ≠ [] := fun e => hn (List.length_eq_zero_iff.1 (by have := hc.len; rw [e] at this; exact Nat.le_zero.1 this))
  rw [if_neg hn0] at hc
  exact HFu.out.cn hn0 hc
 clear h1 k1
 go_wp2
 go_loopw [5] (fun _ wr => ∃ s : St, Hid (RdW wr B q en L s) ∧ Hid (s.l ≠ [] → Fu L k s) ∧ Hid (Kn B q w wr) ∧ Hid (lopK L (fS) mulB s.l.length s = T)) (fun _ wr => tlen q wr)
 case atStart => exact ⟨fS st, H1, HF1, K1, HL1⟩
 case round =>
  clear H1 HF1 K1 HL1
  obtain ⟨s, HS, HF, HK, HL⟩ := hrel
  have hmf := HMF.out
  cases hs1 : nextT 3 [42] s.l with
  | true =>
   have hob : mulB s.l = true := by show (nextT 3 [42] s.l || nextT 3 [47] s.l) = true; rw [hs1]; rfl
   have Hs1 := Lib.hid hs1
   have Hob : Hid (mulB s.l = true) := hob
   have Hne := Lib.hid (ob_ne (ob := mulB) (.inr rfl) hob)
   clear hob hs1
   go_wp2_with fail
   refine (pSees_c HS.out 42 (by decide) _ Hs1.out).mono ?_
   rintro e w2 ⟨rfl, bn⟩
   have H2 := Lib.hid (HS.out.below bn)
   have K2 := Lib.hid (HK.out.trans (Kn.below bn))
   clear bn
   go_wp2_with fail
   refine (pJoin_c H2.out (Nat.le_trans HBw.out K2.out.size) 56 (fun _ _ => rfl) (fS) (fun w9 h9 b9 => HO.out w9 (rdS s) h9 b9 (HF.out Hne.out).rd) ?_).mono ?_
   · have hfu := (HF.out Hne.out).rd
     exact fit_of (hg.out (rdS s)) hfu.ts hfu.mad (by split <;> omega)
   rintro e wN ⟨rfl, h9, k9⟩
   have HN := Lib.hid h9
   have KN := Lib.hid (K2.out.trans k9)
   have hj := joi_cn hg.out L Hne.out
   have HFN : Hid ((joiK L (fS) s).l ≠ [] → Fu L k (joiK L (fS) s)) := fun _ => (HF.out Hne.out).cn Hne.out hj.1
   have HLN : Hid (lopK L (fS) mulB (joiK L (fS) s).l.length (joiK L (fS) s) = T) := by show _ = _; rw [← lop_step hg.out L (.inr rfl) Hob.out]; exact HL.out
   have HME : Hid (tlen q wN < tlen q wr) := by show _ < _; rw [tlen_is HN.out, tlen_is HS.out]; exact hj.2
   clear h9 k9 hj
   go_wp2
   go_roundw
   case rel => exact ⟨_, HN, HFN, KN, HLN⟩
   case measure => exact HME.out
  | false =>
   cases hs2 : nextT 3 [47] s.l with
   | true =>
    have hob : mulB s.l = true := by show (nextT 3 [42] s.l || nextT 3 [47] s.l) = true; rw [hs1, hs2]; rfl
    have Hs1 := Lib.hid hs1
    have Hs2 := Lib.hid hs2
    have Hob : Hid (mulB s.l = true) := hob
    have Hne := Lib.hid (ob_ne (ob := mulB) (.inr rfl) hob)
    clear hob hs1 hs2
    go_wp2_with fail
    refine (pSees_c HS.out 42 (by decide) _ Hs1.out).mono ?_
    rintro e w2 ⟨rfl, bn⟩
    have H2 := Lib.hid (HS.out.below bn)
    have K2 := Lib.hid (HK.out.trans (Kn.below bn))
    clear bn
    go_wp2_with fail
    refine (pSees_c H2.out 47 (by decide) _ Hs2.out).mono ?_
    rintro e w3 ⟨rfl, bn⟩
    have H3 := Lib.hid (H2.out.below bn)
    have K3 := Lib.hid (K2.out.trans (Kn.below bn))
    clear bn
    go_wp2_with fail
    refine (pJoin_c H3.out (Nat.le_trans HBw.out K3.out.size) 56 (fun _ _ => rfl) (fS) (fun w9 h9 b9 => HO.out w9 (rdS s) h9 b9 (HF.out Hne.out).rd) ?_).mono ?_
    · have hfu := (HF.out Hne.out).rd
      exact fit_of (hg.out (rdS s)) hfu.ts hfu.mad (by split <;> omega)
    rintro e wN ⟨rfl, h9, k9⟩
    have HN := Lib.hid h9
    have KN := Lib.hid (K3.out.trans k9)
    have hj := joi_cn hg.out L Hne.out
    have HFN : Hid ((joiK L (fS) s).l ≠ [] → Fu L k (joiK L (fS) s)) := fun _ => (HF.out Hne.out).cn Hne.out hj.1
    have HLN : Hid (lopK L (fS) mulB (joiK L (fS) s).l.length (joiK L (fS) s) = T) := by show _ = _; rw [← lop_step hg.out L (.inr rfl) Hob.out]; exact HL.out
    have HME : Hid (tlen q wN < tlen q wr) := by show _ < _; rw [tlen_is HN.out, tlen_is HS.out]; exact hj.2
    clear h9 k9 hj
    go_wp2
    go_roundw
    case rel => exact ⟨_, HN, HFN, KN, HLN⟩
    case measure => exact HME.out
   | false =>
    have hst : Hid (s = T) := by
     show _ = _
     rw [← HL.out]
     exact (lop_stop L _ (by show (nextT 3 [42] s.l || nextT 3 [47] s.l) = false; rw [hs1, hs2]; rfl) _).symm
    have Hs1 := Lib.hid hs1
    have Hs2 := Lib.hid hs2
    clear hs1 hs2
    go_wp2_with fail
    refine (pSees_c HS.out 42 (by decide) _ Hs1.out).mono ?_
    rintro e w2 ⟨rfl, bn⟩
    have H2 := Lib.hid (HS.out.below bn)
    have K2 := Lib.hid (HK.out.trans (Kn.below bn))
    clear bn
    go_wp2_with fail
    refine (pSees_c H2.out 47 (by decide) _ Hs2.out).mono ?_
    rintro e w3 ⟨rfl, bn⟩
    have H3 := Lib.hid (H2.out.below bn)
    have K3 := Lib.hid (K2.out.trans (Kn.below bn))
    clear bn
    go_wp2
    go_end0
    have h5 := H3.out
    rw [hst.out, HT2.out] at h5
    exact ⟨rfl, h5, K3.out⟩
set_option maxHeartbeats 4000000 in
set_option maxRecDepth 100000 in
theorem pForm_c {B q en : Nat} {L : Lim} {k : Nat} {fS : St → St} (hgood : Good1 fS) (hok : TrmOk B q en L k fS) : FrmOk B q en L k (rowK L fS addB) := by
 intro w st h hB hfu
 have hmf : ∀ (fn : Fn) (first cap : Array Value) (w : World), (Instr.makeFunc fn first cap).run Tryd.prog w = .ok (.func fn first cap) w := fun _ _ _ _ => rfl
 have HMF := Lib.hid hmf
 clear hmf
 have HT : Hid (∃ T, T = rowK L (fS) addB st) := ⟨_, rfl⟩
 obtain ⟨T, hT⟩ := HT.out
 have HT2 := Lib.hid hT
 have hg := Lib.hid hgood
 have HO := Lib.hid hok
 have HBw := Lib.hid hB
 have HFu := Lib.hid hfu
 have H0 := Lib.hid h
 have HE : Hid (rowK L (fS) addB st = T) := hT.symm
 clear h hB hfu hT HT hgood hok
 go_enter Tryd.func36, Tryd.ntmps36
 go_wp2_with fail
 refine (HO.out w st H0.out HBw.out HFu.out).mono ?_
 rintro e w1 ⟨rfl, h1, k1⟩
 have H1 := Lib.hid h1
 have K1 := Lib.hid k1
 have HL1 : Hid (lopK L (fS) addB (fS st).l.length (fS st) = T) := HE.out
 have HF1 : Hid ((fS st).l ≠ [] → Fu L k (fS st)) := by
  intro hn
  have hc := hg.out st
  have hn0 : st.l ≠ [] := fun e => hn (List.length_eq_zero_iff.1 (by have := hc.len; rw [e] at this; exact Nat.le_zero.1 this))
  rw [if_neg hn0] at hc
  exact HFu.out.cn hn0 hc
 clear h1 k1
 go_wp2
 go_loopw [5] (fun _ wr => ∃ s : St, Hid (RdW wr B q en L s) ∧ Hid (s.l ≠ [] → Fu L k s) ∧ Hid (Kn B q w wr) ∧ Hid (lopK L (fS) addB s.l.length s = T)) (fun _ wr => tlen q wr)
 case atStart => exact ⟨fS st, H1, HF1, K1, HL1⟩
 case round =>
  clear H1 HF1 K1 HL1
  obtain ⟨s, HS, HF, HK, HL⟩ := hrel
  have hmf := HMF.out
  cases hs1 : nextT 3 [43] s.l with
  | true =>
   have hob : addB s.l = true := by show (nextT 3 [43] s.l || nextT 3 [45] s.l) = true; rw [hs1]; rfl
   have Hs1 := Lib.hid hs1
   have Hob : Hid (addB s.l = true) := hob
   have Hne := Lib.hid (ob_ne (ob := addB) (.inl rfl) hob)
   clear hob hs1
   go_wp2_with fail
   refine (pSees_c HS.out 43 (by decide) _ Hs1.out).mono ?_
   rintro e w2 ⟨rfl, bn⟩
   have H2 := Lib.hid (HS.out.below bn)
   have K2 := Lib.hid (HK.out.trans (Kn.below bn))
   clear bn
   go_wp2_with fail
   refine (pJoin_c H2.out (Nat.le_trans HBw.out K2.out.size) 47 (fun _ _ => rfl) (fS) (fun w9 h9 b9 => HO.out w9 (rdS s) h9 b9 (HF.out Hne.out).rd) ?_).mono ?_
   · have hfu := (HF.out Hne.out).rd
     exact fit_of (hg.out (rdS s)) hfu.ts hfu.mad (by split <;> omega)
   rintro e wN ⟨rfl, h9, k9⟩
   have HN := Lib.hid h9
   have KN := Lib.hid (K2.out.trans k9)
   have hj := joi_cn hg.out L Hne.out
   have HFN : Hid ((joiK L (fS) s).l ≠ [] → Fu L k (joiK L (fS) s)) := fun _ => (HF.out Hne.out).cn Hne.out hj.1
   have HLN : Hid (lopK L (fS) addB (joiK L (fS) s).l.length (joiK L (fS) s) = T) := by show _ = _; rw [← lop_step hg.out L (.inl rfl) Hob.out]; exact HL.out
   have HME : Hid (tlen q wN < tlen q wr) := by show _ < _; rw [tlen_is HN.out, tlen_is HS.out]; exact hj.2
   clear h9 k9 hj
   go_wp2
   go_roundw
   case rel => exact ⟨_, HN, HFN, KN, HLN⟩
   case measure => exact HME.out
  | false =>
   cases hs2 : nextT 3 [45] s.l with
   | true =>
    have hob : addB s.l = true := by show (nextT 3 [43] s.l || nextT 3 [45] s.l) = true; rw [hs1, hs2]; rfl
    have Hs1 := Lib.hid hs1
    have Hs2 := Lib.hid hs2
    have Hob : Hid (addB s.l = true) := hob
    have Hne := Lib.hid (ob_ne (ob := addB) (.inl rfl) hob)
    clear hob hs1 hs2
    go_wp2_with fail
    refine (pSees_c HS.out 43 (by decide) _ Hs1.out).mono ?_
    rintro e w2 ⟨rfl, bn⟩
    have H2 := Lib.hid (HS.out.below bn)
    have K2 := Lib.hid (HK.out.trans (Kn.below bn))
    clear bn
    go_wp2_with fail
    refine (pSees_c H2.out 45 (by decide) _ Hs2.out).mono ?_
    rintro e w3 ⟨rfl, bn⟩
    have H3 := Lib.hid (H2.out.below bn)
    have K3 := Lib.hid (K2.out.trans (Kn.below bn))
    clear bn
    go_wp2_with fail
    refine (pJoin_c H3.out (Nat.le_trans HBw.out K3.out.size) 47 (fun _ _ => rfl) (fS) (fun w9 h9 b9 => HO.out w9 (rdS s) h9 b9 (HF.out Hne.out).rd) ?_).mono ?_
    · have hfu := (HF.out Hne.out).rd
      exact fit_of (hg.out (rdS s)) hfu.ts hfu.mad (by split <;> omega)
    rintro e wN ⟨rfl, h9, k9⟩
    have HN := Lib.hid h9
    have KN := Lib.hid (K3.out.trans k9)
    have hj := joi_cn hg.out L Hne.out
    have HFN : Hid ((joiK L (fS) s).l ≠ [] → Fu L k (joiK L (fS) s)) := fun _ => (HF.out Hne.out).cn Hne.out hj.1
    have HLN : Hid (lopK L (fS) addB (joiK L (fS) s).l.length (joiK L (fS) s) = T) := by show _ = _; rw [← lop_step hg.out L (.inl rfl) Hob.out]; exact HL.out
    have HME : Hid (tlen q wN < tlen q wr) := by show _ < _; rw [tlen_is HN.out, tlen_is HS.out]; exact hj.2
    clear h9 k9 hj
    go_wp2
    go_roundw
    case rel => exact ⟨_, HN, HFN, KN, HLN⟩
    case measure => exact HME.out
   | false =>
    have hst : Hid (s = T) := by
     show _ = _
     rw [← HL.out]
     exact (lop_stop L _ (by show (nextT 3 [43] s.l || nextT 3 [45] s.l) = false; rw [hs1, hs2]; rfl) _).symm
    have Hs1 := Lib.hid hs1
    have Hs2 := Lib.hid hs2
    clear hs1 hs2
    go_wp2_with fail
    refine (pSees_c HS.out 43 (by decide) _ Hs1.out).mono ?_
    rintro e w2 ⟨rfl, bn⟩
    have H2 := Lib.hid (HS.out.below bn)
    have K2 := Lib.hid (HK.out.trans (Kn.below bn))
    clear bn
    go_wp2_with fail
    refine (pSees_c H2.out 45 (by decide) _ Hs2.out).mono ?_
    rintro e w3 ⟨rfl, bn⟩
    have H3 := Lib.hid (H2.out.below bn)
    have K3 := Lib.hid (K2.out.trans (Kn.below bn))
    clear bn
    go_wp2
    go_end0
    have h5 := H3.out
    rw [hst.out, HT2.out] at h5
    exact ⟨rfl, h5, K3.out⟩
end
end Go.Proofs.YtheaepceghnkpaaDoor
