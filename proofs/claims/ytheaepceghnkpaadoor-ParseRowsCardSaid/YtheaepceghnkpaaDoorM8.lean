/- Part 8 of the texts that the statements of this seat lean on: mathematics, and what functions answer, as contracts over memory; each part says its own conditions. -/
import Derived.Test.YtheaepceghnkpaaDoorM7
/- What the reader of package parse does: factor, by the depth that is left; tree. Condition: a reader that reads in memory. -/
namespace Go.Proofs.YtheaepceghnkpaaDoor
open Go.RowKit Limb
set_option linter.unusedVariables false
section
variable {w : World} {B q en : Nat} {L : Lim} {st : St}
set_option maxHeartbeats 4000000 in
set_option maxRecDepth 100000 in
theorem pFac_step {B q en : Nat} {L : Lim} {k : Nat} {fS : St → St} (hL : L.Fit) (hgood : Good1 fS) (hok : FacOk B q en L k fS) : FacOk B q en L (k + 1) (facS' L en fS) := by
 intro w st h hB hfu
 have H0 := Lib.hid h
 have HBw := Lib.hid hB
 have HFu := Lib.hid hfu
 have HO := Lib.hid hok
 have hg := Lib.hid hgood
 have hl := Lib.hid hL
 have Hop : Hid (st.op ≤ 1000) := by have := hfu.op; show _ ≤ _; omega
 have Hi := Lib.hid h.inv
 clear h hB hfu hok hgood hL
 cases hs : nextT 3 [45] st.l with
 | true =>
  have Hne := Lib.hid (next_ne hs)
  have Hs := Lib.hid hs
  obtain ⟨⟨kx, tx, ax⟩, hx⟩ : ∃ t, t = opnX L st := ⟨_, rfl⟩
  replace hx := Lib.hid hx.symm
  have hfld := fun W => (fldTk (kx : Int) (strOf tx) (ax : Int) W).2.2
  have HBd : Hid (∀ W, (Instr.build 51 ([(0, .int .i64 7), (1, .int .i64 (lastS (fS (opnS L st)))), (6, .int .i64 (ax : Int))] : List (Nat × Value)).toArray).run Tryd.prog W = .ok (.agg (ndC 7 (lastS (fS (opnS L st))) 0 0 ⟨#[]⟩ ⟨#[]⟩ (ax : Int))) W) := fun W => by kernel_rfl
  clear hs
  go_enter Tryd.func56, Tryd.ntmps56
  go_wp2_with fail
  refine (pSees_c H0.out 45 (by decide) _ Hs.out).mono ?_
  rintro e w1 ⟨rfl, bn⟩
  have H1 := Lib.hid (H0.out.below bn)
  have K1 := Lib.hid (Kn.below (B := B) (q := q) bn)
  clear bn
  go_wp2_with fail
  have HOp := pOpen_c H1.out Hop.out (Nat.le_trans HBw.out K1.out.size)
  rw [hx.out] at HOp
  refine HOp.mono ?_
  clear HOp
  rintro e w2 ⟨rfl, h2, hg2⟩
  have H2 := Lib.hid h2
  have K2 := Lib.hid (K1.out.trans (Kn.of (B := B) hg2))
  clear h2 hg2
  dsimp only [tkV]
  go_wp2_with fail
  refine (HO.out w2 (opnS L st) H2.out (Nat.le_trans HBw.out K2.out.size) (opn_fu hl.out HFu.out Hne.out Hi.out)).mono ?_
  rintro e w3 ⟨rfl, h3, hk3⟩
  have H3 := Lib.hid h3
  have K3 := Lib.hid (K2.out.trans hk3)
  clear h3 hk3
  have hc := co_step hg.out (opn_co L Hne.out).1
  have hop2 : (fS (opnS L st)).op = st.op + 1 := hc.2.2.2.trans (opn_co L Hne.out).2
  obtain ⟨k10, f10⟩ := H3.out.cell10
  rw [hop2] at k10
  have eop : ((st.op + 1 : Nat) : Int) - 1 = (st.op : Int) := by omega
  have hop6 : ((st.op + 1 : Nat) : Int) ≤ 1000000 := by have := Hop.out; omega
  have hop0 : (1 : Int) ≤ ((st.op + 1 : Nat) : Int) := by omega
  have HD : Hid (RdW (w3.setCell ⟨q, 10, none⟩ (.int .i64 (st.op : Int))) B q en L (shtS (fS (opnS L st)))) := by
   have h := H3.out.depth st.op
   have e : shtS (fS (opnS L st)) = { fS (opnS L st) with op := st.op } := by unfold shtS; rw [hop2]; rfl
   show RdW _ _ _ _ _ _
   rw [e]; exact h
  have KD := Lib.hid (K3.out.trans (Kn.of (B := B) (grown_set w3 q 10 (.int .i64 (st.op : Int)))))
  have hfit : Hid ((shtS (fS (opnS L st))).ts.length ≤ 1000000 ∧ (shtS (fS (opnS L st))).mad ≤ 1000000) := by
   have h1 := hc.2.1
   have h2 := hc.2.2.1
   have h3 := HFu.out.ts
   have h4 := HFu.out.mad
   show (fS (opnS L st)).ts.length ≤ _ ∧ (fS (opnS L st)).mad ≤ _
   omega
  generalize ((st.op + 1 : Nat) : Int) = opz at *
  clear hc
  go_wp2_with fail
  generalize w3.setCell ⟨q, 10, none⟩ (.int .i64 (st.op : Int)) = w4 at *
  clear k10 f10 eop hop6 hop0
  refine (pLast_c HD.out).mono ?_
  rintro e w5 ⟨rfl, rfl⟩
  skip
  have hls : lastS (shtS (fS (opnS L st))) = lastS (fS (opnS L st)) := rfl
  rw [hls]
  clear hls
  go_wp2_with (refine wpList_buildV (by rfl) _ _ (by rfl) _ (by rfl) _ (by assumption) ?_)
  refine (pNode_c HD.out (Nat.le_trans HBw.out KD.out.size) hfit.out ⟨7, lastS (fS (opnS L st)), 0, 0, ⟨#[]⟩, ⟨#[]⟩, (ax : Int)⟩ ⟨7, lastS (fS (opnS L st)), 0, 0, ⟨#[]⟩, ⟨#[]⟩, (ax : Int)⟩ rfl (fun _ => rfl)).mono ?_
  rintro e w6 ⟨rfl, h6, k6⟩
  have H6 := Lib.hid h6
  have K6 := Lib.hid (KD.out.trans k6)
  clear h6 k6
  go_wp2
  refine bodyPost_ret (results_none rfl _ _ _) rfl ?_
  have hst : facS' L en fS st = nodS L ⟨7, lastS (fS (opnS L st)), 0, 0, ⟨#[]⟩, ⟨#[]⟩, (ax : Int)⟩ (shtS (fS (opnS L st))) := by unfold facS'; rw [if_pos Hs.out, hx.out]
  rw [hst]
  exact ⟨rfl, H6.out, K6.out⟩
 | false =>
  have Hs := Lib.hid hs
  clear hs
  have HA : Hid (∀ w1, RdW w1 B q en L st → B ≤ w1.heap.size → Calls Tryd.prog 67 #[.pointer (some ⟨q, 0, none⟩)] w1 fun x w' => x = .returned (.tuple #[]) ∧ RdW w' B q en L (atmS L en (frmK L fS) st) ∧ Kn B q w1 w') := fun w1 h1 b1 => pAtom_c h1 b1 Hop.out (frmK L fS) (fun h40 w9 h9 b9 => pForm_c (trm_good hg.out L) (pTerm_c hg.out HO.out) w9 (opnS L st) h9 b9 (opn_fu hl.out HFu.out (next_ne h40) Hi.out)) (fun h40 => (frm_good hg.out L (opnS L st)).op.trans (opn_co L (next_ne h40)).2) ⟨by have := HFu.out.ts; omega, by have := HFu.out.mad; omega⟩
  have hfit : Hid ((atmS L en (frmK L fS) st).ts.length ≤ 1000000 ∧ (atmS L en (frmK L fS) st).mad ≤ 1000000) := fit_of (atm_good L en (frm_good hg.out L) st) HFu.out.ts HFu.out.mad (by split <;> omega)
  have hst : Hid (facS' L en fS st = if nextT 3 [94] (atmS L en (frmK L fS) st).l = true then powS L en (atmS L en (frmK L fS) st) else atmS L en (frmK L fS) st) := by show _ = _; unfold facS'; rw [Hs.out]; rfl
  generalize hAs : atmS L en (frmK L fS) st = sA at *
  clear hAs
  go_enter Tryd.func56, Tryd.ntmps56
  go_wp2_with fail
  refine (pSees_c H0.out 45 (by decide) _ Hs.out).mono ?_
  rintro e w1 ⟨rfl, bn⟩
  have H1 := Lib.hid (H0.out.below bn)
  have K1 := Lib.hid (Kn.below (B := B) (q := q) bn)
  clear bn
  go_wp2_with fail
  refine (HA.out w1 H1.out (Nat.le_trans HBw.out K1.out.size)).mono ?_
  rintro e w2 ⟨rfl, h2, k2⟩
  have H2 := Lib.hid h2
  have K2 := Lib.hid (K1.out.trans k2)
  clear h2 k2
  cases hp : nextT 3 [94] sA.l with
  | true =>
   have Hp := Lib.hid hp
   rw [hp] at hst
   clear hp
   go_wp2_with fail
   refine (pSees_c H2.out 94 (by decide) _ Hp.out).mono ?_
   rintro e w3 ⟨rfl, bn⟩
   have H3 := Lib.hid (H2.out.below bn)
   have K3 := Lib.hid (K2.out.trans (Kn.below bn))
   clear bn
   go_wp2_with fail
   refine (pPower_c H3.out (Nat.le_trans HBw.out K3.out.size) hl.out.2.1 hfit.out).mono ?_
   rintro e w4 ⟨rfl, h4, k4⟩
   have H4 := Lib.hid h4
   have K4 := Lib.hid (K3.out.trans k4)
   clear h4 k4
   go_wp2
   go_end0
   rw [hst.out]
   exact ⟨rfl, H4.out, K4.out⟩
  | false =>
   have Hp := Lib.hid hp
   rw [hp] at hst
   clear hp
   go_wp2_with fail
   refine (pSees_c H2.out 94 (by decide) _ Hp.out).mono ?_
   rintro e w3 ⟨rfl, bn⟩
   have H3 := Lib.hid (H2.out.below bn)
   have K3 := Lib.hid (K2.out.trans (Kn.below bn))
   clear bn
   go_wp2
   go_end0
   rw [hst.out]
   exact ⟨rfl, H3.out, K3.out⟩
theorem pFactor_c (B q en : Nat) {L : Lim} (hL : L.Fit) : ∀ k, FacOk B q en L k (facK L en k)
 | 0 => fun w st _ _ hfu => absurd hfu.one (by decide)
 | k + 1 => pFac_step hL (fac_good L en k) (pFactor_c B q en hL k)
theorem pFormula_r (B q en : Nat) {L : Lim} (hL : L.Fit) (k : Nat) : FrmOk B q en L k (frmK L (facK L en k)) := pForm_c (trm_good (fac_good L en k) L) (pTerm_c (fac_good L en k) (pFactor_c B q en hL k))
theorem Kn.grownBy {q : Nat} {w w' : World} (h : Kn w.heap.size q w w') : w.grownBy w' (some q) := ⟨h.os, h.tape, h.output, h.size, fun i hi hq => h.block i hi (fun e => hq (by rw [e])) (fun hb => absurd hi (by omega))⟩
set_option maxHeartbeats 4000000 in
set_option maxRecDepth 100000 in
theorem pTree_c (h : RdW w B q en L st) (hB : B ≤ w.heap.size) (hL : L.Fit) {K : Nat} (hfu : Fu L K (nilS st)) :
 Calls Tryd.prog 22 #[.pointer (some ⟨q, 0, none⟩)] w fun x w' => ∃ C m d ts, x = .returned (.slice C m d) ∧ OwnT w' w.heap.size C m d ts ∧ ((treS L en K st).E = 0 → ts = (treS L en K st).ts) ∧ RdW w' w.heap.size q en L (treS L en K st) ∧ w.grownBy w' (some q) := by
 obtain ⟨A, n, c, C, m, d, ts, h1, h2, h3, h4, h5, h6, h7, h8⟩ := id h
 have k8 := h1.cell (k := 8) (v := .slice C m d) rfl
 have f8 := h1.free 8
 have hg := grown_set w q 8 (.slice none 0 0)
 have HN : Hid (RdW (w.setCell ⟨q, 8, none⟩ (.slice none 0 0)) w.heap.size q en L (nilS st)) := by
  refine ⟨A, n, c, none, 0, 0, [], h1.set 8 _, ?_, ⟨rfl, OwnR.nil _ _ _ _⟩, rfl, fun _ => rfl, h1.lt, h7.kn (Kn.of hg) h6, h8⟩
  have hk := h2.kn (Kn.of (B := B) hg) h1
  refine ⟨hk.1, hk.2.1, hk.2.2.1, fun h0 => ?_⟩
  obtain ⟨g, o, V, e, hb, hr, hc⟩ := hk.2.2.2 h0
  exact ⟨g, o, V, e, Nat.lt_of_lt_of_le hb hB, hr, hc⟩
 have HG := Lib.hid hg
 have HFu := Lib.hid hfu
 have hl := Lib.hid hL
 have hsz : Hid (w.heap.size ≤ (w.setCell ⟨q, 8, none⟩ (.slice none 0 0)).heap.size) := by show _ ≤ _; rw [World.size_setCell]; exact Nat.le_refl _
 clear h h1 h2 h3 h4 h5 h6 h7 h8 hg hB hfu hL
 go_enter Tryd.func22, Tryd.ntmps22
 go_wp2_with fail
 generalize w.setCell ⟨q, 8, none⟩ (.slice none 0 0) = w1 at *
 clear k8 f8
 refine (pFormula_r w.heap.size q en hl.out K w1 (nilS st) HN.out hsz.out HFu.out).mono ?_
 rintro e w2 ⟨rfl, h2, k2⟩
 obtain ⟨A2, n2, c2, C2, m2, d2, ts2, r1, r2, r3, r4, r5, r6⟩ := id h2
 have k8 := r1.cell (k := 8) (v := .slice C2 m2 d2) rfl
 have hgb := (Kn.of (B := w.heap.size) HG.out).trans k2
 have H2 := Lib.hid h2
 have HK := Lib.hid hgb
 have H3 := Lib.hid r3
 have H45 := Lib.hid (And.intro r4 r5)
 clear h2 r1 r2 r3 r4 r5 r6 hgb k2
 go_wp2
 go_ret
 exact ⟨C2, m2, d2, ts2, rfl, H3.out, H45.out.2, H2.out, HK.out.grownBy⟩
end
end Go.Proofs.YtheaepceghnkpaaDoor

/- What the reader of package parse does with a num. Condition: a reader that reads in memory. -/
namespace Go.Proofs.YtheaepceghnkpaaDoor
open Go.RowKit Limb
set_option linter.unusedVariables false
section
variable {w : World} {B q en : Nat} {L : Lim} {st : St}
theorem str_app (a b : List Nat) : strOf (a ++ b) = strOf a ++ strOf b := by
 apply ByteArray.ext
 rw [ByteArray.data_append]
 unfold strOf
 simp
theorem pTake_s (h : RdW w B q en L st) (kd : Nat) {X : ByteArray} (hX : strOf (takX en kd st) = X) : Calls Tryd.prog 42 #[.pointer (some ⟨q, 0, none⟩), .int .i64 (kd : Int)] w fun x w' => x = .returned (.string X) ∧ RdW w' B q en L (takS en kd st) ∧ w.grownBy w' (some q) := by
 have := pTake_c h kd
 rw [hX] at this
 exact this
theorem pRead_s (h : RdW w B q en L st) {kd ap : Nat} {tx : List Nat} (hp : pkS st = (kd, tx, ap)) {X : ByteArray} (hX : strOf tx = X) : Calls Tryd.prog 29 #[.pointer (some ⟨q, 0, none⟩)] w fun x w' => x = .returned (.agg #[.int .i64 (kd : Int), .string X, .int .i64 (ap : Int)]) ∧ RdW w' B q en L (rdS st) ∧ w.grownBy w' (some q) := by
 have := pRead_t h hp
 rw [hX] at this
 exact this
theorem takX_len (h : RdW w B q en L st) (kd : Nat) : (takX en kd st).length ≤ 5000 := by
 have hf := h.pk.2.1
 unfold takX takP needS
 split
 · exact hf
 · unfold refS failS
   split
   · show (pkL []).2.1.length ≤ 5000; decide
   · exact hf
set_option maxHeartbeats 4000000 in
set_option maxRecDepth 100000 in
theorem pNum_c (h : RdW w B q en L st) :
 Calls Tryd.prog 44 #[.pointer (some ⟨q, 0, none⟩)] w fun x w' => x = .returned (.string (strOf (numX en st))) ∧ RdW w' B q en L (numS en st) ∧ w.grownBy w' (some q) := by
 have H0 := Lib.hid h
 have G0 := Lib.hid (gr_of (Below.refl w.heap.size w) (some q))
 clear h
 cases hs : nextT 3 [45] st.l with
 | true =>
  have Hs := Lib.hid hs
  clear hs
  obtain ⟨⟨k, t, a⟩, hp⟩ : ∃ t, t = pkS (st) := ⟨_, rfl⟩
  replace hp := Lib.hid hp.symm
  obtain ⟨X0, hX0⟩ : ∃ X, X = strOf t := ⟨_, rfl⟩
  have hfld := fun W => (fldTk (k : Int) X0 (a : Int) W).2.1
  have hS0 := size_strOf t
  rw [← hX0] at hS0
  have HX0 := Lib.hid hX0
  clear hX0
  obtain ⟨x1, hx1⟩ : ∃ x, x = takX en 2 (rdS st) := ⟨_, rfl⟩
  have Hx1 := Lib.hid hx1
  obtain ⟨X1, hX1⟩ : ∃ X, X = strOf x1 := ⟨_, rfl⟩
  have HX1 := Lib.hid hX1
  have HX1t : Hid (strOf (takX en 2 (rdS st)) = X1) := by show _ = _; rw [← hx1, ← hX1]
  clear hx1 hX1
  go_enter Tryd.func44, Tryd.ntmps44
  go_wp2_with fail
  refine (pSees_c H0.out 45 (by decide) _ Hs.out).mono ?_
  rintro e w1 ⟨rfl, bn⟩
  have H1 := Lib.hid (H0.out.below bn)
  have G1 := Lib.hid (gr_trans G0.out (gr_of bn (some q)))
  clear bn H0 G0
  have ht0 := H1.out.pk.2.1
  rw [hp.out] at ht0
  dsimp only at ht0
  have hz0 : X0.size ≤ 5000 := by omega
  clear hS0 ht0
  go_wp2_with fail
  refine (pRead_s H1.out hp.out HX0.out.symm).mono ?_
  rintro e w2 ⟨rfl, h2, hg⟩
  have H2 := Lib.hid h2
  have G2 := Lib.hid (gr_trans G1.out hg)
  clear h2 hg H1 G1
  have hl1 := takX_len H2.out 2
  have hS1 := size_strOf (takX en 2 (rdS st))
  rw [HX1t.out] at hS1
  have hz1 : X1.size ≤ 5000 := by omega
  clear hS1 hl1
  go_wp2_with fail
  refine (pTake_s H2.out 2 HX1t.out).mono ?_
  rintro e w3 ⟨rfl, h2, hg⟩
  have H3 := Lib.hid h2
  have G3 := Lib.hid (gr_trans G2.out hg)
  clear h2 hg H2 G2
  cases hs2 : nextT 3 [47] (takS en 2 (rdS st)).l with
  | true =>
   have Hs2 := Lib.hid hs2
   clear hs2
   obtain ⟨⟨kb, tb, ab⟩, hpb⟩ : ∃ t, t = pkS (takS en 2 (rdS st)) := ⟨_, rfl⟩
   replace hpb := Lib.hid hpb.symm
   obtain ⟨Xb, hXb⟩ : ∃ X, X = strOf tb := ⟨_, rfl⟩
   have hSb := size_strOf tb
   rw [← hXb] at hSb
   have HXb := Lib.hid hXb
   obtain ⟨X3, hX3⟩ : ∃ X, X = strOf (takX en 2 (rdS (takS en 2 (rdS st)))) := ⟨_, rfl⟩
   have HX3 := Lib.hid hX3
   have hS3 := size_strOf (takX en 2 (rdS (takS en 2 (rdS st))))
   rw [← hX3] at hS3
   clear hXb hX3
   have hfb := fun W => (fldTk (kb : Int) Xb (ab : Int) W).2.1
   go_wp2_with fail
   refine (pSees_c H3.out 47 (by decide) _ Hs2.out).mono ?_
   rintro e w4 ⟨rfl, bn⟩
   have H4 := Lib.hid (H3.out.below bn)
   have G4 := Lib.hid (gr_trans G3.out (gr_of bn (some q)))
   clear bn
   have htb := H4.out.pk.2.1
   rw [hpb.out] at htb
   dsimp only at htb
   have hzb : Xb.size ≤ 5000 := by omega
   clear hSb htb
   go_wp2_with fail
   refine (pRead_s H4.out hpb.out HXb.out.symm).mono ?_
   rintro e w5 ⟨rfl, h2, hg⟩
   have H5 := Lib.hid h2
   have G5 := Lib.hid (gr_trans G4.out hg)
   clear h2 hg
   have hl3 := takX_len H5.out 2
   have hz3 : X3.size ≤ 5000 := by omega
   clear hS3 hl3
   go_wp2_with fail
   refine (pTake_s H5.out 2 HX3.out.symm).mono ?_
   rintro e w6 ⟨rfl, h2, hg⟩
   have H6 := Lib.hid h2
   have G6 := Lib.hid (gr_trans G5.out hg)
   clear h2 hg
   have hx2 : strOf (numX en st) = X0 ++ X1 ++ (Xb ++ X3) ∧ numS en st = takS en 2 (rdS (takS en 2 (rdS st))) := by
    unfold numX numS numbX numbS
    rw [Hs.out]
    simp only [if_true]
    rw [Hs2.out]
    simp only [if_true]
    refine ⟨?_, trivial⟩
    rw [hp.out, str_app, str_app, str_app, hpb.out, HX1t.out, ← HX3.out, ← HXb.out, ← HX0.out, ByteArray.append_assoc]
   have Hx2 := Lib.hid hx2
   clear hx2
   go_wp2
   go_ret
   rw [Hx2.out.1, Hx2.out.2]
   exact ⟨rfl, H6.out, G6.out⟩
  | false =>
   have Hs2 := Lib.hid hs2
   clear hs2
   have hx2 : strOf (numX en st) = X0 ++ X1 ∧ numS en st = takS en 2 (rdS st) := by
    unfold numX numS numbX numbS
    rw [Hs.out]
    simp only [if_true]
    rw [Hs2.out]
    simp only [Bool.false_eq_true, if_false]
    exact ⟨by rw [hp.out, str_app, HX1t.out, ← HX0.out], trivial⟩
   have Hx2 := Lib.hid hx2
   clear hx2
   go_wp2_with fail
   refine (pSees_c H3.out 47 (by decide) _ Hs2.out).mono ?_
   rintro e w4 ⟨rfl, bn⟩
   have H4 := Lib.hid (H3.out.below bn)
   have G4 := Lib.hid (gr_trans G3.out (gr_of bn (some q)))
   clear bn
   go_wp2
   go_ret
   rw [Hx2.out.1, Hx2.out.2]
   exact ⟨rfl, H4.out, G4.out⟩
 | false =>
  have Hs := Lib.hid hs
  clear hs
  obtain ⟨x1, hx1⟩ : ∃ x, x = takX en 2 (st) := ⟨_, rfl⟩
  have Hx1 := Lib.hid hx1
  obtain ⟨X1, hX1⟩ : ∃ X, X = strOf x1 := ⟨_, rfl⟩
  have HX1 := Lib.hid hX1
  have HX1t : Hid (strOf (takX en 2 (st)) = X1) := by show _ = _; rw [← hx1, ← hX1]
  clear hx1 hX1
  go_enter Tryd.func44, Tryd.ntmps44
  go_wp2_with fail
  refine (pSees_c H0.out 45 (by decide) _ Hs.out).mono ?_
  rintro e w1 ⟨rfl, bn⟩
  have H1 := Lib.hid (H0.out.below bn)
  have G1 := Lib.hid (gr_trans G0.out (gr_of bn (some q)))
  clear bn H0 G0
  have hl1 := takX_len H1.out 2
  have hS1 := size_strOf (takX en 2 (st))
  rw [HX1t.out] at hS1
  have hz1 : X1.size ≤ 5000 := by omega
  clear hS1 hl1
  go_wp2_with fail
  refine (pTake_s H1.out 2 HX1t.out).mono ?_
  rintro e w2 ⟨rfl, h2, hg⟩
  have H2 := Lib.hid h2
  have G2 := Lib.hid (gr_trans G1.out hg)
  clear h2 hg H1 G1
  cases hs2 : nextT 3 [47] (takS en 2 (st)).l with
  | true =>
   have Hs2 := Lib.hid hs2
   clear hs2
   obtain ⟨⟨kb, tb, ab⟩, hpb⟩ : ∃ t, t = pkS (takS en 2 (st)) := ⟨_, rfl⟩
   replace hpb := Lib.hid hpb.symm
   obtain ⟨Xb, hXb⟩ : ∃ X, X = strOf tb := ⟨_, rfl⟩
   have hSb := size_strOf tb
   rw [← hXb] at hSb
   have HXb := Lib.hid hXb
   obtain ⟨X3, hX3⟩ : ∃ X, X = strOf (takX en 2 (rdS (takS en 2 (st)))) := ⟨_, rfl⟩
   have HX3 := Lib.hid hX3
   have hS3 := size_strOf (takX en 2 (rdS (takS en 2 (st))))
   rw [← hX3] at hS3
   clear hXb hX3
   have hfb := fun W => (fldTk (kb : Int) Xb (ab : Int) W).2.1
   go_wp2_with fail
   refine (pSees_c H2.out 47 (by decide) _ Hs2.out).mono ?_
   rintro e w3 ⟨rfl, bn⟩
   have H3 := Lib.hid (H2.out.below bn)
   have G3 := Lib.hid (gr_trans G2.out (gr_of bn (some q)))
   clear bn
   have htb := H3.out.pk.2.1
   rw [hpb.out] at htb
   dsimp only at htb
   have hzb : Xb.size ≤ 5000 := by omega
   clear hSb htb
   go_wp2_with fail
   refine (pRead_s H3.out hpb.out HXb.out.symm).mono ?_
   rintro e w4 ⟨rfl, h2, hg⟩
   have H4 := Lib.hid h2
   have G4 := Lib.hid (gr_trans G3.out hg)
   clear h2 hg
   have hl3 := takX_len H4.out 2
   have hz3 : X3.size ≤ 5000 := by omega
   clear hS3 hl3
   go_wp2_with fail
   refine (pTake_s H4.out 2 HX3.out.symm).mono ?_
   rintro e w5 ⟨rfl, h2, hg⟩
   have H5 := Lib.hid h2
   have G5 := Lib.hid (gr_trans G4.out hg)
   clear h2 hg
   have hx2 : strOf (numX en st) = X1 ++ (Xb ++ X3) ∧ numS en st = takS en 2 (rdS (takS en 2 (st))) := by
    unfold numX numS numbX numbS
    rw [Hs.out]
    simp only [Bool.false_eq_true, if_false]
    rw [Hs2.out]
    simp only [if_true]
    refine ⟨?_, trivial⟩
    rw [str_app, str_app, hpb.out, HX1t.out, ← HX3.out, ← HXb.out]
   have Hx2 := Lib.hid hx2
   clear hx2
   go_wp2
   go_ret
   rw [Hx2.out.1, Hx2.out.2]
   exact ⟨rfl, H5.out, G5.out⟩
  | false =>
   have Hs2 := Lib.hid hs2
   clear hs2
   have hx2 : strOf (numX en st) = X1 ∧ numS en st = takS en 2 (st) := by
    unfold numX numS numbX numbS
    rw [Hs.out]
    simp only [Bool.false_eq_true, if_false]
    rw [Hs2.out]
    simp only [Bool.false_eq_true, if_false]
    exact ⟨by rw [HX1t.out], trivial⟩
   have Hx2 := Lib.hid hx2
   clear hx2
   go_wp2_with fail
   refine (pSees_c H2.out 47 (by decide) _ Hs2.out).mono ?_
   rintro e w3 ⟨rfl, bn⟩
   have H3 := Lib.hid (H2.out.below bn)
   have G3 := Lib.hid (gr_trans G2.out (gr_of bn (some q)))
   clear bn
   go_wp2
   go_ret
   rw [Hx2.out.1, Hx2.out.2]
   exact ⟨rfl, H3.out, G3.out⟩
end
end Go.Proofs.YtheaepceghnkpaaDoor

/- What kindOf of package parse answers. Condition: the table of words reads as it is laid. -/
namespace Go.Proofs.YtheaepceghnkpaaDoor
open Go.RowKit Limb
set_option linter.unusedVariables false
section
variable {w : World} {B q en : Nat} {L : Lim} {st : St}
def isW (k : Nat) (t : List Nat) (j : Nat) : Bool := decide (k = 1) && decide (t = wordB j)
theorem kind_at {k a j : Nat} {t : List Nat} (hj : j < 6) (h : isW k t j = true) : kindK (k, t, a) = j := by
 unfold isW at h
 simp only [Bool.and_eq_true, decide_eq_true_eq] at h
 obtain ⟨rfl, rfl⟩ := h
 match j, hj with
 | 0, _ => rfl
 | 1, _ => rfl
 | 2, _ => rfl
 | 3, _ => rfl
 | 4, _ => rfl
 | 5, _ => rfl
theorem kind_no {k a : Nat} {t : List Nat} (h : ∀ j, j < 6 → isW k t j = false) : kindK (k, t, a) = 0 := by
 have key : ∀ j, 1 ≤ j → j < 6 → isT 1 (wordB j) (k, t, a) = false := fun j h1 h2 => by
  have := h j h2
  have hne : (wordB j).isEmpty = false := by
   match j, h1, h2 with
   | 1, _, _ => rfl
   | 2, _, _ => rfl
   | 3, _, _ => rfl
   | 4, _, _ => rfl
   | 5, _, _ => rfl
  unfold isT
  rw [hne, Bool.false_or]
  exact this
 unfold kindK wordK
 rw [if_neg (by rw [show isT 1 [117, 110, 105, 116] (k, t, a) = false from key 1 (by decide) (by decide)]; decide), if_neg (by rw [show isT 1 [115, 111, 117, 114, 99, 101] (k, t, a) = false from key 2 (by decide) (by decide)]; decide), if_neg (by rw [show isT 1 [99, 111, 118] (k, t, a) = false from key 3 (by decide) (by decide)]; decide), if_neg (by rw [show isT 1 [108, 101, 116] (k, t, a) = false from key 4 (by decide) (by decide)]; decide), if_neg (by rw [show isT 1 [111, 117, 116, 112, 117, 116] (k, t, a) = false from key 5 (by decide) (by decide)]; decide)]
 rfl
theorem wordB_bytes (j : Nat) : Bytes (wordB j) := by
 intro x hx
 unfold wordB at hx
 split at hx
 · revert x; decide
 · split at hx
   · revert x; decide
   · split at hx
     · revert x; decide
     · split at hx
       · revert x; decide
       · split at hx
         · revert x; decide
         · cases hx
def wordsV : Array Value := #[.string (strOf (wordB 0)), .string (strOf (wordB 1)), .string (strOf (wordB 2)), .string (strOf (wordB 3)), .string (strOf (wordB 4)), .string (strOf (wordB 5))]
theorem words_in {w : World} (h : WTab w) : InV w 0 0 wordsV := fun j v hv => by
 rw [Nat.zero_add]
 have hj : j < 6 := by
  rcases Nat.lt_or_ge j 6 with h | h
  · exact h
  · rw [Array.getElem?_eq_none (by exact h)] at hv; cases hv
 have := h j hj
 match j, hj, hv with
 | 0, _, hv => cases hv; exact this
 | 1, _, hv => cases hv; exact this
 | 2, _, hv => cases hv; exact this
 | 3, _, hv => cases hv; exact this
 | 4, _, hv => cases hv; exact this
 | 5, _, hv => cases hv; exact this
theorem sizeW : (Tryd.prog.info? 77).map (·.size) = some 6 := by kernel_rfl
theorem manyW : Many Tryd.prog 77 wordsV.size := ⟨sizeW, _, Tryd.underlying77, rfl⟩
set_option maxHeartbeats 4000000 in
set_option maxRecDepth 100000 in
theorem pKindOf_c (k a : Nat) (t : List Nat) (ht : Bytes t) (w : World) (T : WTab w) :
 Calls Tryd.prog 27 #[.agg #[.int .i64 (k : Int), .string (strOf t), .int .i64 (a : Int)]] w fun x w' => x = .returned (.int .i64 (kindK (k, t, a) : Nat)) ∧ Below w.heap.size w w' := by
 have bn := below_new w (.cells #[.int .i64 (k : Int), .string (strOf t), .int .i64 (a : Int)] 39)
 have HX0 := Lib.hid (rowA_new w 39 #[.int .i64 (k : Int), .string (strOf t), .int .i64 (a : Int)])
 have HB0 := Lib.hid bn
 have HW := Lib.hid (words_in (w := w.alloc (.cells #[.int .i64 (k : Int), .string (strOf t), .int .i64 (a : Int)] 39)) (fun i hi => (bn.cell (p := ⟨0, i, none⟩) (kcell_lt (T i hi))).trans (T i hi)))
 have HMW := Lib.hid manyW
 have HMT := Lib.hid (manyTk (k : Int) (strOf t) (a : Int))
 have Ht := Lib.hid ht
 clear bn T ht
 go_enter Tryd.func27, Tryd.ntmps27
 go_wp2_with (refine wpList_loadV (by rfl) _ _ (by rfl) _ _ (by rfl) _ (by assumption) (by assumption) ?_)
 obtain ⟨gb, hgb⟩ : ∃ g, g = w.heap.size := ⟨_, rfl⟩
 rw [← hgb] at HX0 ⊢
 clear hgb
 generalize w.alloc (.cells #[.int .i64 (k : Int), .string (strOf t), .int .i64 (a : Int)] 39) = w1 at *
 go_loopw [6] (fun iv wr => ∃ i : Nat, iv = .int .i64 (i : Int) ∧ i ≤ 6 ∧ Hid (∀ j, j < i → isW k t j = false) ∧ Hid (Below w.heap.size w wr) ∧ Hid (RowA wr gb 39 #[.int .i64 (k : Int), .string (strOf t), .int .i64 (a : Int)])) (fun iv _ => 6 - (intOf iv).toNat)
 case atStart => exact ⟨0, rfl, by decide, fun j hj => absurd hj (Nat.not_lt_zero _), HB0, HX0⟩
 case round =>
  clear HB0 HX0 HW
  obtain ⟨i, rfl, hi, HN, HB, HX⟩ := hrel
  have HI := Lib.hid HX.out.inV
  skip
  by_cases h6 : i = 6
  · subst h6
    have hk : Hid (kindK (k, t, a) = 0) := kind_no HN.out
    go_wp2
    go_ret
    exact ⟨by rw [hk.out]; rfl, HB.out⟩
  · have h7 : i = 0 ∨ i = 1 ∨ i = 2 ∨ i = 3 ∨ i = 4 ∨ i = 5 := by omega
    clear h6 hi
    rcases h7 with rfl | rfl | rfl | rfl | rfl | rfl
    · cases hv : isW k t 0 with
      | true =>
       have Hv : Hid ((decide (k = 1) && decide (t = wordB 0)) = true) := hv
       have hk : Hid (kindK (k, t, a) = 0) := kind_at (by decide) hv
       clear hv
       have hix : ∀ W, (Instr.index 77 (.agg wordsV) (.int .i64 0)).run Tryd.prog W = .ok (.string (strOf (wordB 0))) W := fun W => by kernel_rfl
       go_wp2_with (refine wpList_loadV (by rfl) _ _ (by rfl) _ _ (by rfl) _ (by assumption) (by assumption) ?_)
       refine (pIsWord_c k a t (wordB 0) Ht.out (wordB_bytes 0) _ Hv.out).mono ?_
       rintro e w2 ⟨rfl, bn⟩
       have HB2 := Lib.hid (below_two HB.out bn)
       have HX2 := Lib.hid (HX.out.below bn)
       clear bn
       go_wp2
       refine bodyPost_ret (results_tmp rfl _ _ _) rfl ?_
       exact ⟨by rw [hk.out]; rfl, HB2.out⟩
      | false =>
       have Hv : Hid ((decide (k = 1) && decide (t = wordB 0)) = false) := hv
       have HN2 : Hid (∀ j, j < 1 → isW k t j = false) := fun j hj => (Nat.lt_succ_iff_lt_or_eq.1 hj).elim (HN.out j) (fun e => by rw [e]; exact hv)
       clear hv
       have hix : ∀ W, (Instr.index 77 (.agg wordsV) (.int .i64 0)).run Tryd.prog W = .ok (.string (strOf (wordB 0))) W := fun W => by kernel_rfl
       go_wp2_with (refine wpList_loadV (by rfl) _ _ (by rfl) _ _ (by rfl) _ (by assumption) (by assumption) ?_)
       refine (pIsWord_c k a t (wordB 0) Ht.out (wordB_bytes 0) _ Hv.out).mono ?_
       rintro e w2 ⟨rfl, bn⟩
       have HB2 := Lib.hid (below_two HB.out bn)
       have HX2 := Lib.hid (HX.out.below bn)
       clear bn
       go_wp2
       go_roundw
       case rel => exact ⟨1, by go_num, by decide, HN2, HB2, HX2⟩
       case measure => simp [intOf]
    · cases hv : isW k t 1 with
      | true =>
       have Hv : Hid ((decide (k = 1) && decide (t = wordB 1)) = true) := hv
       have hk : Hid (kindK (k, t, a) = 1) := kind_at (by decide) hv
       clear hv
       have hix : ∀ W, (Instr.index 77 (.agg wordsV) (.int .i64 1)).run Tryd.prog W = .ok (.string (strOf (wordB 1))) W := fun W => by kernel_rfl
       go_wp2_with (refine wpList_loadV (by rfl) _ _ (by rfl) _ _ (by rfl) _ (by assumption) (by assumption) ?_)
       refine (pIsWord_c k a t (wordB 1) Ht.out (wordB_bytes 1) _ Hv.out).mono ?_
       rintro e w2 ⟨rfl, bn⟩
       have HB2 := Lib.hid (below_two HB.out bn)
       have HX2 := Lib.hid (HX.out.below bn)
       clear bn
       go_wp2
       refine bodyPost_ret (results_tmp rfl _ _ _) rfl ?_
       exact ⟨by rw [hk.out]; rfl, HB2.out⟩
      | false =>
       have Hv : Hid ((decide (k = 1) && decide (t = wordB 1)) = false) := hv
       have HN2 : Hid (∀ j, j < 2 → isW k t j = false) := fun j hj => (Nat.lt_succ_iff_lt_or_eq.1 hj).elim (HN.out j) (fun e => by rw [e]; exact hv)
       clear hv
       have hix : ∀ W, (Instr.index 77 (.agg wordsV) (.int .i64 1)).run Tryd.prog W = .ok (.string (strOf (wordB 1))) W := fun W => by kernel_rfl
       go_wp2_with (refine wpList_loadV (by rfl) _ _ (by rfl) _ _ (by rfl) _ (by assumption) (by assumption) ?_)
       refine (pIsWord_c k a t (wordB 1) Ht.out (wordB_bytes 1) _ Hv.out).mono ?_
       rintro e w2 ⟨rfl, bn⟩
       have HB2 := Lib.hid (below_two HB.out bn)
       have HX2 := Lib.hid (HX.out.below bn)
       clear bn
       go_wp2
       go_roundw
       case rel => exact ⟨2, by go_num, by decide, HN2, HB2, HX2⟩
       case measure => simp [intOf]
    · cases hv : isW k t 2 with
      | true =>
       have Hv : Hid ((decide (k = 1) && decide (t = wordB 2)) = true) := hv
       have hk : Hid (kindK (k, t, a) = 2) := kind_at (by decide) hv
       clear hv
       have hix : ∀ W, (Instr.index 77 (.agg wordsV) (.int .i64 2)).run Tryd.prog W = .ok (.string (strOf (wordB 2))) W := fun W => by kernel_rfl
       go_wp2_with (refine wpList_loadV (by rfl) _ _ (by rfl) _ _ (by rfl) _ (by assumption) (by assumption) ?_)
       refine (pIsWord_c k a t (wordB 2) Ht.out (wordB_bytes 2) _ Hv.out).mono ?_
       rintro e w2 ⟨rfl, bn⟩
       have HB2 := Lib.hid (below_two HB.out bn)
       have HX2 := Lib.hid (HX.out.below bn)
       clear bn
       go_wp2
       refine bodyPost_ret (results_tmp rfl _ _ _) rfl ?_
       exact ⟨by rw [hk.out]; rfl, HB2.out⟩
      | false =>
       have Hv : Hid ((decide (k = 1) && decide (t = wordB 2)) = false) := hv
       have HN2 : Hid (∀ j, j < 3 → isW k t j = false) := fun j hj => (Nat.lt_succ_iff_lt_or_eq.1 hj).elim (HN.out j) (fun e => by rw [e]; exact hv)
       clear hv
       have hix : ∀ W, (Instr.index 77 (.agg wordsV) (.int .i64 2)).run Tryd.prog W = .ok (.string (strOf (wordB 2))) W := fun W => by kernel_rfl
       go_wp2_with (refine wpList_loadV (by rfl) _ _ (by rfl) _ _ (by rfl) _ (by assumption) (by assumption) ?_)
       refine (pIsWord_c k a t (wordB 2) Ht.out (wordB_bytes 2) _ Hv.out).mono ?_
       rintro e w2 ⟨rfl, bn⟩
       have HB2 := Lib.hid (below_two HB.out bn)
       have HX2 := Lib.hid (HX.out.below bn)
       clear bn
       go_wp2
       go_roundw
       case rel => exact ⟨3, by go_num, by decide, HN2, HB2, HX2⟩
       case measure => simp [intOf]
    · cases hv : isW k t 3 with
      | true =>
       have Hv : Hid ((decide (k = 1) && decide (t = wordB 3)) = true) := hv
       have hk : Hid (kindK (k, t, a) = 3) := kind_at (by decide) hv
       clear hv
       have hix : ∀ W, (Instr.index 77 (.agg wordsV) (.int .i64 3)).run Tryd.prog W = .ok (.string (strOf (wordB 3))) W := fun W => by kernel_rfl
       go_wp2_with (refine wpList_loadV (by rfl) _ _ (by rfl) _ _ (by rfl) _ (by assumption) (by assumption) ?_)
       refine (pIsWord_c k a t (wordB 3) Ht.out (wordB_bytes 3) _ Hv.out).mono ?_
       rintro e w2 ⟨rfl, bn⟩
       have HB2 := Lib.hid (below_two HB.out bn)
       have HX2 := Lib.hid (HX.out.below bn)
       clear bn
       go_wp2
       refine bodyPost_ret (results_tmp rfl _ _ _) rfl ?_
       exact ⟨by rw [hk.out]; rfl, HB2.out⟩
      | false =>
       have Hv : Hid ((decide (k = 1) && decide (t = wordB 3)) = false) := hv
       have HN2 : Hid (∀ j, j < 4 → isW k t j = false) := fun j hj => (Nat.lt_succ_iff_lt_or_eq.1 hj).elim (HN.out j) (fun e => by rw [e]; exact hv)
       clear hv
       have hix : ∀ W, (Instr.index 77 (.agg wordsV) (.int .i64 3)).run Tryd.prog W = .ok (.string (strOf (wordB 3))) W := fun W => by kernel_rfl
       go_wp2_with (refine wpList_loadV (by rfl) _ _ (by rfl) _ _ (by rfl) _ (by assumption) (by assumption) ?_)
       refine (pIsWord_c k a t (wordB 3) Ht.out (wordB_bytes 3) _ Hv.out).mono ?_
       rintro e w2 ⟨rfl, bn⟩
       have HB2 := Lib.hid (below_two HB.out bn)
       have HX2 := Lib.hid (HX.out.below bn)
       clear bn
       go_wp2
       go_roundw
       case rel => exact ⟨4, by go_num, by decide, HN2, HB2, HX2⟩
       case measure => simp [intOf]
    · cases hv : isW k t 4 with
      | true =>
       have Hv : Hid ((decide (k = 1) && decide (t = wordB 4)) = true) := hv
       have hk : Hid (kindK (k, t, a) = 4) := kind_at (by decide) hv
       clear hv
       have hix : ∀ W, (Instr.index 77 (.agg wordsV) (.int .i64 4)).run Tryd.prog W = .ok (.string (strOf (wordB 4))) W := fun W => by kernel_rfl
       go_wp2_with (refine wpList_loadV (by rfl) _ _ (by rfl) _ _ (by rfl) _ (by assumption) (by assumption) ?_)
       refine (pIsWord_c k a t (wordB 4) Ht.out (wordB_bytes 4) _ Hv.out).mono ?_
       rintro e w2 ⟨rfl, bn⟩
       have HB2 := Lib.hid (below_two HB.out bn)
       have HX2 := Lib.hid (HX.out.below bn)
       clear bn
       go_wp2
       refine bodyPost_ret (results_tmp rfl _ _ _) rfl ?_
       exact ⟨by rw [hk.out]; rfl, HB2.out⟩
      | false =>
       have Hv : Hid ((decide (k = 1) && decide (t = wordB 4)) = false) := hv
       have HN2 : Hid (∀ j, j < 5 → isW k t j = false) := fun j hj => (Nat.lt_succ_iff_lt_or_eq.1 hj).elim (HN.out j) (fun e => by rw [e]; exact hv)
       clear hv
       have hix : ∀ W, (Instr.index 77 (.agg wordsV) (.int .i64 4)).run Tryd.prog W = .ok (.string (strOf (wordB 4))) W := fun W => by kernel_rfl
       go_wp2_with (refine wpList_loadV (by rfl) _ _ (by rfl) _ _ (by rfl) _ (by assumption) (by assumption) ?_)
       refine (pIsWord_c k a t (wordB 4) Ht.out (wordB_bytes 4) _ Hv.out).mono ?_
       rintro e w2 ⟨rfl, bn⟩
       have HB2 := Lib.hid (below_two HB.out bn)
       have HX2 := Lib.hid (HX.out.below bn)
       clear bn
       go_wp2
       go_roundw
       case rel => exact ⟨5, by go_num, by decide, HN2, HB2, HX2⟩
       case measure => simp [intOf]
    · cases hv : isW k t 5 with
      | true =>
       have Hv : Hid ((decide (k = 1) && decide (t = wordB 5)) = true) := hv
       have hk : Hid (kindK (k, t, a) = 5) := kind_at (by decide) hv
       clear hv
       have hix : ∀ W, (Instr.index 77 (.agg wordsV) (.int .i64 5)).run Tryd.prog W = .ok (.string (strOf (wordB 5))) W := fun W => by kernel_rfl
       go_wp2_with (refine wpList_loadV (by rfl) _ _ (by rfl) _ _ (by rfl) _ (by assumption) (by assumption) ?_)
       refine (pIsWord_c k a t (wordB 5) Ht.out (wordB_bytes 5) _ Hv.out).mono ?_
       rintro e w2 ⟨rfl, bn⟩
       have HB2 := Lib.hid (below_two HB.out bn)
       have HX2 := Lib.hid (HX.out.below bn)
       clear bn
       go_wp2
       refine bodyPost_ret (results_tmp rfl _ _ _) rfl ?_
       exact ⟨by rw [hk.out]; rfl, HB2.out⟩
      | false =>
       have Hv : Hid ((decide (k = 1) && decide (t = wordB 5)) = false) := hv
       have HN2 : Hid (∀ j, j < 6 → isW k t j = false) := fun j hj => (Nat.lt_succ_iff_lt_or_eq.1 hj).elim (HN.out j) (fun e => by rw [e]; exact hv)
       clear hv
       have hix : ∀ W, (Instr.index 77 (.agg wordsV) (.int .i64 5)).run Tryd.prog W = .ok (.string (strOf (wordB 5))) W := fun W => by kernel_rfl
       go_wp2_with (refine wpList_loadV (by rfl) _ _ (by rfl) _ _ (by rfl) _ (by assumption) (by assumption) ?_)
       refine (pIsWord_c k a t (wordB 5) Ht.out (wordB_bytes 5) _ Hv.out).mono ?_
       rintro e w2 ⟨rfl, bn⟩
       have HB2 := Lib.hid (below_two HB.out bn)
       have HX2 := Lib.hid (HX.out.below bn)
       clear bn
       go_wp2
       go_roundw
       case rel => exact ⟨6, by go_num, by decide, HN2, HB2, HX2⟩
       case measure => simp [intOf]
end
end Go.Proofs.YtheaepceghnkpaaDoor

/- What the reader of package parse does with a declaration's body. Condition: a reader that reads in memory. -/
namespace Go.Proofs.YtheaepceghnkpaaDoor
open Go.RowKit Limb
set_option linter.unusedVariables false
section
variable {w : World} {B q en : Nat} {L : Lim} {st : St}
theorem E_fail {e p : Int} {st : St} (h : (failS e p st).E = 0) : st.E = 0 := by
 unfold failS at h
 split at h
 · assumption
 · exact h
theorem E_need {en : Nat} {b : Bool} {st : St} (h : (needS en b st).E = 0) : st.E = 0 := by
 unfold needS at h
 split at h
 · exact h
 · exact E_fail h
theorem E_tak {en kd : Nat} {st : St} (h : (takS en kd st).E = 0) : st.E = 0 := E_need (b := decide ((pkS st).1 = kd)) (en := en) h
theorem E_sgn {en : Nat} {tx : List Nat} {st : St} (h : (sgnS en tx st).E = 0) : st.E = 0 := E_need (b := nextT 3 tx st.l) (en := en) h
theorem E_sml {en k most : Nat} {st : St} (h : (smlS en k most st).E = 0) : st.E = 0 := by
 unfold smlS smlP at h
 split at h
 · exact E_fail h
 · split at h
   · exact E_fail h
   · exact h
theorem E_out1 {en : Nat} {s : St} (h : (out1 en s).E = 0) : s.E = 0 := by
 unfold out1 at h
 split at h
 · exact E_tak (st := rdS s) h
 · exact h
structure Gd (q gd : Nat) (w w' : World) : Prop where
 os : w'.os = w.os
 tape : w'.tape = w.tape
 output : w'.output = w.output
 size : w.heap.size ≤ w'.heap.size
 block : ∀ i, i < w.heap.size → i ≠ q → i ≠ gd → w'.heap[i]? = w.heap[i]?
theorem Gd.of {q gd : Nat} {w w' : World} (h : w.grownBy w' (some q)) : Gd q gd w w' := ⟨h.os, h.tape, h.output, h.size, fun i hi h1 _ => h.block i hi (fun e => h1 (by injection e))⟩
theorem Gd.set (q gd : Nat) (w : World) (k : Nat) (v : Value) : Gd q gd w (w.setCell ⟨gd, k, none⟩ v) :=
 ⟨rfl, rfl, rfl, by simp, fun i hi _ h2 => Below.heap_setCell w _ v i (fun e => h2 e)⟩
theorem Gd.trans {q gd : Nat} {a b c : World} (h : Gd q gd a b) (k : Gd q gd b c) : Gd q gd a c :=
 ⟨k.os.trans h.os, k.tape.trans h.tape, k.output.trans h.output, Nat.le_trans h.size k.size, fun i hi h1 h2 => (k.block i (Nat.lt_of_lt_of_le hi h.size) h1 h2).trans (h.block i hi h1 h2)⟩
theorem RdW.setD (h : RdW w B q en L st) {g : Nat} {U : Array Value} (hr : RowA w g 49 U) (hqg : q < g) (k : Nat) (v : Value) : RdW (w.setCell ⟨g, k, none⟩ v) B q en L st := by
 obtain ⟨A, n, c, C, m, d, ts, h1, h2, h3, h4, h5, h6, h7, h9⟩ := h
 have hg := grown_set w g k v
 have ho := h3.2.differ hr (by decide)
 refine ⟨A, n, c, C, m, d, ts, h1.grown hg (fun e => by injection e with e; omega), ⟨h2.1, h2.2.1, h2.2.2.1, fun h0 => ?_⟩, ⟨h3.1, h3.2.over hg (fun x e => by cases e; exact ho)⟩, h4, h5, h6, ?_, h9⟩
 · obtain ⟨g2, o, V, e, hb, hr2, hc⟩ := h2.2.2.2 h0
   have hne : g2 ≠ g := by
    rintro rfl
    unfold RowA at hr hr2
    rw [hr] at hr2
    injection hr2 with hr2
    injection hr2 with _ e2
    exact absurd e2 (by decide)
   have hr3 := hr2.grown hg (fun e => hne (by injection e with e; exact e.symm))
   exact ⟨g2, o, V, e, hb, hr3, fun i t hi => inV_row (hc i t hi) hr2 hr3⟩
 · refine ⟨h7.1.same fun b i v hb hc => ?_, h7.2⟩
   have e := hg.block b (kcell_lt hc) (fun e => by injection e with e; have := h7.2; omega)
   rw [← hc]
   simp [World.cell?, e]
theorem tr_td : 56 ≠ 51 := by decide
theorem pNum_s (h : RdW w B q en L st) {X : ByteArray} (hX : strOf (numX en st) = X) : Calls Tryd.prog 44 #[.pointer (some ⟨q, 0, none⟩)] w fun x w' => x = .returned (.string X) ∧ RdW w' B q en L (numS en st) ∧ w.grownBy w' (some q) := by
 have := pNum_c h
 rw [hX] at this
 exact this
theorem pUnits_s (h : RdW w B q en L st) {X : ByteArray} (hX : strOf (untX en st) = X) : Calls Tryd.prog 45 #[.pointer (some ⟨q, 0, none⟩)] w fun x w' => x = .returned (.string X) ∧ RdW w' B q en L (untS en st) ∧ w.grownBy w' (some q) := by
 have := pUnits_c h
 rw [hX] at this
 exact this
theorem bytes_in : Bytes [105, 110] := fun x hx => by
 rcases List.mem_cons.1 hx with h | h
 · omega
 · have := List.mem_singleton.1 h; omega
theorem next1_pk (c d : Nat) (l : List Tk) : nextT 1 [c, d] l = (decide ((pkL l).1 = 1) && decide ((pkL l).2.1 = [c, d])) := by
 cases l with
 | nil => rfl
 | cons t r => rfl
set_option maxHeartbeats 4000000 in
set_option maxRecDepth 100000 in
theorem pBody_c (h : RdW w B q en L st) (hB : B ≤ w.heap.size) (hL : L.Fit) {K : Nat} (hfu : Fu L K (nilS st)) {gd k : Nat} (hqg : q < gd) {nm ot : ByteArray} {at0 : Int} (hd : RowA w gd 49 (dcC (k : Int) nm ot ⟨#[]⟩ ⟨#[]⟩ ⟨#[]⟩ none 0 0 0 at0)) (d0 : Dc) (hd0 : d0.nu = [] ∧ d0.va = [] ∧ d0.un = [] ∧ d0.tr = [] ∧ d0.pl = 0) :
 Calls Tryd.prog 32 #[.pointer (some ⟨q, 0, none⟩), .pointer (some ⟨gd, 0, none⟩)] w fun x w' => x = .returned (.tuple #[]) ∧ ∃ A n c ts pl B2, RowA w' gd 49 (dcC (k : Int) nm ot (strOf (bodD L en K k st d0).nu) (strOf (bodD L en K k st d0).va) (strOf (bodD L en K k st d0).un) A n c pl at0) ∧ OwnX w' A n c ts ∧ ((bodS L en K k st).E = 0 → ts = (bodD L en K k st d0).tr ∧ pl = (bodD L en K k st d0).pl) ∧ RdW w' B2 q en L (bodS L en K k st) ∧ B2 ≤ w'.heap.size ∧ Gd q gd w w' := by
 obtain ⟨k0, n0, o0, nu0, va0, un0, tr0, pl0, ap0⟩ := d0
 obtain ⟨z1, z2, z3, z4, z5⟩ := hd0
 dsimp only at z1 z2 z3 z4 z5
 subst z1 z2 z3 z4 z5
 have hd0 : True := trivial
 have H0 := Lib.hid h
 have D0 := Lib.hid hd
 have G0 := Lib.hid (Gd.of (q := q) (gd := gd) (gr_of (Below.refl w.heap.size w) (some q)))
 have B0 := Lib.hid hB
 have hqd2 := Lib.hid hqg
 have hqd : Hid (q ≠ gd) := by show _ ≠ _; omega
 have hl := Lib.hid hL
 have HFu := Lib.hid hfu
 have c0 := hd.cell (k := 0) (v := .int .i64 (k : Int)) rfl
 clear h hd hB hqg hL hfu
 generalize hw : w = w0 at *
 clear hw
 by_cases k1 : k = 1
 · subst k1
   go_enter Tryd.func32, Tryd.ntmps32
   obtain ⟨N, hN⟩ : ∃ X, X = strOf (numX en st) := ⟨_, rfl⟩
   have HN := Lib.hid hN
   clear hN
   obtain ⟨U, hU⟩ : ∃ X, X = strOf (takX en 4 (numS en st)) := ⟨_, rfl⟩
   have HU := Lib.hid hU
   clear hU
   go_wp2_with fail
   refine (pNum_s H0.out HN.out.symm).mono ?_
   rintro e w1 ⟨rfl, h2, hg⟩
   have H1 := Lib.hid h2
   have D1 := Lib.hid (D0.out.grown hg (fun e => hqd.out (by injection e)))
   have G1 := Lib.hid (G0.out.trans (Gd.of hg))
   have B1 : Hid (B ≤ w1.heap.size) := Nat.le_trans B0.out hg.size
   clear h2 hg H0 D0 G0 B0
   have ck := D1.out.cell (k := 3) (v := .string ⟨#[]⟩) rfl
   have fk := D1.out.free 3
   have H2 := Lib.hid (H1.out.setD D1.out hqd2.out 3 (.string N))
   have D2 : Hid (RowA (w1.setCell ⟨gd, 3, none⟩ (.string N)) gd 49 (#[.int .i64 ((1 : Nat) : Int), .string nm, .string ot, .string N, .string ⟨#[]⟩, .string ⟨#[]⟩, .slice none 0 0, .int .i64 0, .int .i64 at0] : Array Value)) := D1.out.set 3 (.string N)
   have G2 := Lib.hid (G1.out.trans (Gd.set q gd w1 3 (.string N)))
   have B2 : Hid (B ≤ (w1.setCell ⟨gd, 3, none⟩ (.string N)).heap.size) := by show _ ≤ _; rw [World.size_setCell]; exact B1.out
   clear H1 D1 G1 B1
   go_wp2_with fail
   generalize w1.setCell ⟨gd, 3, none⟩ (.string N) = w2 at *
   clear ck fk
   go_wp2_with fail
   refine (pTake_s H2.out 4 HU.out.symm).mono ?_
   rintro e w3 ⟨rfl, h2, hg⟩
   have H3 := Lib.hid h2
   have D3 := Lib.hid (D2.out.grown hg (fun e => hqd.out (by injection e)))
   have G3 := Lib.hid (G2.out.trans (Gd.of hg))
   have B3 : Hid (B ≤ w3.heap.size) := Nat.le_trans B2.out hg.size
   clear h2 hg H2 D2 G2 B2
   have ck := D3.out.cell (k := 5) (v := .string ⟨#[]⟩) rfl
   have fk := D3.out.free 5
   have H4 := Lib.hid (H3.out.setD D3.out hqd2.out 5 (.string U))
   have D4 : Hid (RowA (w3.setCell ⟨gd, 5, none⟩ (.string U)) gd 49 (#[.int .i64 ((1 : Nat) : Int), .string nm, .string ot, .string N, .string ⟨#[]⟩, .string U, .slice none 0 0, .int .i64 0, .int .i64 at0] : Array Value)) := D3.out.set 5 (.string U)
   have G4 := Lib.hid (G3.out.trans (Gd.set q gd w3 5 (.string U)))
   have B4 : Hid (B ≤ (w3.setCell ⟨gd, 5, none⟩ (.string U)).heap.size) := by show _ ≤ _; rw [World.size_setCell]; exact B3.out
   clear H3 D3 G3 B3
   go_wp2_with fail
   generalize w3.setCell ⟨gd, 5, none⟩ (.string U) = w4 at *
   clear ck fk
   go_wp2
   first | go_end0 | refine bodyPost_ret (results_none rfl _ _ _) rfl ?_
   refine ⟨rfl, none, 0, 0, [], 0, B, ?_, OwnX.nil _, ?_, ?_, B4.out, G4.out⟩
   · have h := D4.out
     show RowA _ _ _ (dcC _ nm ot (strOf (numX en st)) (strOf []) (strOf (takX en 4 (numS en st))) _ _ _ _ _)
     rw [← HN.out, ← HU.out]
     exact h
   · intro e
     exact ⟨rfl, rfl⟩
   · have h := H4.out
     exact h
 · have e1 : ((k : Int) == 1) = false := by rw [beq_eq_false_iff_ne]; omega
   by_cases k2 : k = 2
   · subst k2
     go_enter Tryd.func32, Tryd.ntmps32
     obtain ⟨N, hN⟩ : ∃ X, X = strOf (numX en st) := ⟨_, rfl⟩
     have HN := Lib.hid hN
     clear hN
     obtain ⟨U, hU⟩ : ∃ X, X = strOf (untX en (numS en st)) := ⟨_, rfl⟩
     have HU := Lib.hid hU
     clear hU
     obtain ⟨M, hM⟩ : ∃ X, X = strOf (numX en (sgnS en [58] (untS en (numS en st)))) := ⟨_, rfl⟩
     have HM := Lib.hid hM
     clear hM
     go_wp2_with fail
     refine (pNum_s H0.out HN.out.symm).mono ?_
     rintro e w1 ⟨rfl, h2, hg⟩
     have H1 := Lib.hid h2
     have D1 := Lib.hid (D0.out.grown hg (fun e => hqd.out (by injection e)))
     have G1 := Lib.hid (G0.out.trans (Gd.of hg))
     have B1 : Hid (B ≤ w1.heap.size) := Nat.le_trans B0.out hg.size
     clear h2 hg H0 D0 G0 B0
     have ck := D1.out.cell (k := 3) (v := .string ⟨#[]⟩) rfl
     have fk := D1.out.free 3
     have H2 := Lib.hid (H1.out.setD D1.out hqd2.out 3 (.string N))
     have D2 : Hid (RowA (w1.setCell ⟨gd, 3, none⟩ (.string N)) gd 49 (#[.int .i64 ((2 : Nat) : Int), .string nm, .string ot, .string N, .string ⟨#[]⟩, .string ⟨#[]⟩, .slice none 0 0, .int .i64 0, .int .i64 at0] : Array Value)) := D1.out.set 3 (.string N)
     have G2 := Lib.hid (G1.out.trans (Gd.set q gd w1 3 (.string N)))
     have B2 : Hid (B ≤ (w1.setCell ⟨gd, 3, none⟩ (.string N)).heap.size) := by show _ ≤ _; rw [World.size_setCell]; exact B1.out
     clear H1 D1 G1 B1
     go_wp2_with fail
     generalize w1.setCell ⟨gd, 3, none⟩ (.string N) = w2 at *
     clear ck fk
     go_wp2_with fail
     refine (pUnits_s H2.out HU.out.symm).mono ?_
     rintro e w3 ⟨rfl, h2, hg⟩
     have H3 := Lib.hid h2
     have D3 := Lib.hid (D2.out.grown hg (fun e => hqd.out (by injection e)))
     have G3 := Lib.hid (G2.out.trans (Gd.of hg))
     have B3 : Hid (B ≤ w3.heap.size) := Nat.le_trans B2.out hg.size
     clear h2 hg H2 D2 G2 B2
     have ck := D3.out.cell (k := 5) (v := .string ⟨#[]⟩) rfl
     have fk := D3.out.free 5
     have H4 := Lib.hid (H3.out.setD D3.out hqd2.out 5 (.string U))
     have D4 : Hid (RowA (w3.setCell ⟨gd, 5, none⟩ (.string U)) gd 49 (#[.int .i64 ((2 : Nat) : Int), .string nm, .string ot, .string N, .string ⟨#[]⟩, .string U, .slice none 0 0, .int .i64 0, .int .i64 at0] : Array Value)) := D3.out.set 5 (.string U)
     have G4 := Lib.hid (G3.out.trans (Gd.set q gd w3 5 (.string U)))
     have B4 : Hid (B ≤ (w3.setCell ⟨gd, 5, none⟩ (.string U)).heap.size) := by show _ ≤ _; rw [World.size_setCell]; exact B3.out
     clear H3 D3 G3 B3
     go_wp2_with fail
     generalize w3.setCell ⟨gd, 5, none⟩ (.string U) = w4 at *
     clear ck fk
     go_wp2_with fail
     refine (pSign_c H4.out 58 (by decide)).mono ?_
     rintro e w5 ⟨rfl, h2, hg⟩
     have H5 := Lib.hid h2
     have D5 := Lib.hid (D4.out.grown hg (fun e => hqd.out (by injection e)))
     have G5 := Lib.hid (G4.out.trans (Gd.of hg))
     have B5 : Hid (B ≤ w5.heap.size) := Nat.le_trans B4.out hg.size
     clear h2 hg H4 D4 G4 B4
     go_wp2_with fail
     refine (pNum_s H5.out HM.out.symm).mono ?_
     rintro e w6 ⟨rfl, h2, hg⟩
     have H6 := Lib.hid h2
     have D6 := Lib.hid (D5.out.grown hg (fun e => hqd.out (by injection e)))
     have G6 := Lib.hid (G5.out.trans (Gd.of hg))
     have B6 : Hid (B ≤ w6.heap.size) := Nat.le_trans B5.out hg.size
     clear h2 hg H5 D5 G5 B5
     have ck := D6.out.cell (k := 4) (v := .string ⟨#[]⟩) rfl
     have fk := D6.out.free 4
     have H7 := Lib.hid (H6.out.setD D6.out hqd2.out 4 (.string M))
     have D7 : Hid (RowA (w6.setCell ⟨gd, 4, none⟩ (.string M)) gd 49 (#[.int .i64 ((2 : Nat) : Int), .string nm, .string ot, .string N, .string M, .string U, .slice none 0 0, .int .i64 0, .int .i64 at0] : Array Value)) := D6.out.set 4 (.string M)
     have G7 := Lib.hid (G6.out.trans (Gd.set q gd w6 4 (.string M)))
     have B7 : Hid (B ≤ (w6.setCell ⟨gd, 4, none⟩ (.string M)).heap.size) := by show _ ≤ _; rw [World.size_setCell]; exact B6.out
     clear H6 D6 G6 B6
     go_wp2_with fail
     generalize w6.setCell ⟨gd, 4, none⟩ (.string M) = w7 at *
     clear ck fk
     go_wp2
     first | go_end0 | refine bodyPost_ret (results_none rfl _ _ _) rfl ?_
     refine ⟨rfl, none, 0, 0, [], 0, B, ?_, OwnX.nil _, ?_, ?_, B7.out, G7.out⟩
     · have h := D7.out
       show RowA _ _ _ (dcC _ nm ot (strOf (numX en st)) (strOf (numX en (sgnS en [58] (untS en (numS en st))))) (strOf (untX en (numS en st))) _ _ _ _ _)
       rw [← HN.out, ← HU.out, ← HM.out]
       exact h
     · intro e
       exact ⟨rfl, rfl⟩
     · have h := H7.out
       exact h
   · have e2 : ((k : Int) == 2) = false := by rw [beq_eq_false_iff_ne]; omega
     by_cases k3 : k = 3
     · subst k3
       go_enter Tryd.func32, Tryd.ntmps32
       obtain ⟨N, hN⟩ : ∃ X, X = strOf (numX en st) := ⟨_, rfl⟩
       have HN := Lib.hid hN
       clear hN
       go_wp2_with fail
       refine (pNum_s H0.out HN.out.symm).mono ?_
       rintro e w1 ⟨rfl, h2, hg⟩
       have H1 := Lib.hid h2
       have D1 := Lib.hid (D0.out.grown hg (fun e => hqd.out (by injection e)))
       have G1 := Lib.hid (G0.out.trans (Gd.of hg))
       have B1 : Hid (B ≤ w1.heap.size) := Nat.le_trans B0.out hg.size
       clear h2 hg H0 D0 G0 B0
       have ck := D1.out.cell (k := 3) (v := .string ⟨#[]⟩) rfl
       have fk := D1.out.free 3
       have H2 := Lib.hid (H1.out.setD D1.out hqd2.out 3 (.string N))
       have D2 : Hid (RowA (w1.setCell ⟨gd, 3, none⟩ (.string N)) gd 49 (#[.int .i64 ((3 : Nat) : Int), .string nm, .string ot, .string N, .string ⟨#[]⟩, .string ⟨#[]⟩, .slice none 0 0, .int .i64 0, .int .i64 at0] : Array Value)) := D1.out.set 3 (.string N)
       have G2 := Lib.hid (G1.out.trans (Gd.set q gd w1 3 (.string N)))
       have B2 : Hid (B ≤ (w1.setCell ⟨gd, 3, none⟩ (.string N)).heap.size) := by show _ ≤ _; rw [World.size_setCell]; exact B1.out
       clear H1 D1 G1 B1
       go_wp2_with fail
       generalize w1.setCell ⟨gd, 3, none⟩ (.string N) = w2 at *
       clear ck fk
       go_wp2
       first | go_end0 | refine bodyPost_ret (results_none rfl _ _ _) rfl ?_
       refine ⟨rfl, none, 0, 0, [], 0, B, ?_, OwnX.nil _, ?_, ?_, B2.out, G2.out⟩
       · have h := D2.out
         show RowA _ _ _ (dcC _ nm ot (strOf (numX en st)) (strOf []) (strOf []) _ _ _ _ _)
         rw [← HN.out]
         exact h
       · intro e
         exact ⟨rfl, rfl⟩
       · have h := H2.out
         exact h
     · have e3 : ((k : Int) == 3) = false := by rw [beq_eq_false_iff_ne]; omega
       by_cases k4 : k = 4
       · subst k4
         go_enter Tryd.func32, Tryd.ntmps32
         go_wp2_with fail
         refine (pTree_c H0.out B0.out hl.out HFu.out).mono ?_
         rintro e w1 ⟨C, m, d, ts, rfl, hO, hts, h2, hg⟩
         have H1 := Lib.hid h2
         have D1 := Lib.hid (D0.out.grown hg (fun e => hqd.out (by injection e)))
         have G1 := Lib.hid (G0.out.trans (Gd.of hg))
         have B1 : Hid (w0.heap.size ≤ w1.heap.size) := hg.size
         have X1 := Lib.hid hO.x
         have Hts := Lib.hid hts
         obtain ⟨Bt, hBt⟩ : ∃ b, b = w0.heap.size := ⟨_, rfl⟩
         rw [← hBt] at H1 B1
         clear hBt hO hts h2 hg H0 D0 G0 B0
         have ck := D1.out.cell (k := 6) (v := .slice none 0 0) rfl
         have fk := D1.out.free 6
         have H2 := Lib.hid (H1.out.setD D1.out hqd2.out 6 (.slice C m d))
         have D2 : Hid (RowA (w1.setCell ⟨gd, 6, none⟩ (.slice C m d)) gd 49 (#[.int .i64 ((4 : Nat) : Int), .string nm, .string ot, .string ⟨#[]⟩, .string ⟨#[]⟩, .string ⟨#[]⟩, .slice C m d, .int .i64 0, .int .i64 at0] : Array Value)) := D1.out.set 6 (.slice C m d)
         have G2 := Lib.hid (G1.out.trans (Gd.set q gd w1 6 (.slice C m d)))
         have B2 : Hid (Bt ≤ (w1.setCell ⟨gd, 6, none⟩ (.slice C m d)).heap.size) := by show _ ≤ _; rw [World.size_setCell]; exact B1.out
         have X2 := Lib.hid (X1.out.over D1.out (by decide) (grown_set w1 gd 6 (.slice C m d)))
         clear H1 D1 G1 B1 X1
         go_wp2_with fail
         generalize w1.setCell ⟨gd, 6, none⟩ (.slice C m d) = w2 at *
         clear ck fk
         go_wp2
         first | go_end0 | refine bodyPost_ret (results_none rfl _ _ _) rfl ?_
         refine ⟨rfl, C, m, d, ts, 0, Bt, ?_, X2.out, ?_, ?_, B2.out, G2.out⟩
         · have h := D2.out
           show RowA _ _ _ (dcC _ nm ot (strOf []) (strOf []) (strOf []) _ _ _ _ _)
           exact h
         · intro e
           exact ⟨Hts.out e, rfl⟩
         · have h := H2.out
           exact h
       · have e4 : ((k : Int) == 4) = false := by rw [beq_eq_false_iff_ne]; omega
         by_cases k5 : k = 5
         · subst k5
           go_enter Tryd.func32, Tryd.ntmps32
           go_wp2_with fail
           refine (pTree_c H0.out B0.out hl.out HFu.out).mono ?_
           rintro e w1 ⟨C, m, d, ts, rfl, hO, hts, h2, hg⟩
           have H1 := Lib.hid h2
           have D1 := Lib.hid (D0.out.grown hg (fun e => hqd.out (by injection e)))
           have G1 := Lib.hid (G0.out.trans (Gd.of hg))
           have B1 : Hid (w0.heap.size ≤ w1.heap.size) := hg.size
           have X1 := Lib.hid hO.x
           have Hts := Lib.hid hts
           obtain ⟨Bt, hBt⟩ : ∃ b, b = w0.heap.size := ⟨_, rfl⟩
           rw [← hBt] at H1 B1
           clear hBt hO hts h2 hg H0 D0 G0 B0
           have ck := D1.out.cell (k := 6) (v := .slice none 0 0) rfl
           have fk := D1.out.free 6
           have H2 := Lib.hid (H1.out.setD D1.out hqd2.out 6 (.slice C m d))
           have D2 : Hid (RowA (w1.setCell ⟨gd, 6, none⟩ (.slice C m d)) gd 49 (#[.int .i64 ((5 : Nat) : Int), .string nm, .string ot, .string ⟨#[]⟩, .string ⟨#[]⟩, .string ⟨#[]⟩, .slice C m d, .int .i64 0, .int .i64 at0] : Array Value)) := D1.out.set 6 (.slice C m d)
           have G2 := Lib.hid (G1.out.trans (Gd.set q gd w1 6 (.slice C m d)))
           have B2 : Hid (Bt ≤ (w1.setCell ⟨gd, 6, none⟩ (.slice C m d)).heap.size) := by show _ ≤ _; rw [World.size_setCell]; exact B1.out
           have X2 := Lib.hid (X1.out.over D1.out (by decide) (grown_set w1 gd 6 (.slice C m d)))
           clear H1 D1 G1 B1 X1
           go_wp2_with fail
           generalize w1.setCell ⟨gd, 6, none⟩ (.slice C m d) = w2 at *
           clear ck fk
           obtain ⟨⟨kw, tw, aw⟩, hpw⟩ : ∃ t, t = pkS (treS L en K st) := ⟨_, rfl⟩
           replace hpw := Lib.hid hpw.symm
           have hbw := H2.out.pk.1
           rw [hpw.out] at hbw
           have Hbw := Lib.hid hbw
           clear hbw
           go_wp2_with fail
           refine (pPeek_t H2.out hpw.out).mono ?_
           rintro e w3 ⟨rfl, bn⟩
           have hg := gr_of bn (some q)
           have H3 := Lib.hid (H2.out.below bn)
           have D3 := Lib.hid (D2.out.grown hg (fun e => hqd.out (by injection e)))
           have G3 := Lib.hid (G2.out.trans (Gd.of hg))
           have B3 : Hid (Bt ≤ w3.heap.size) := Nat.le_trans B2.out hg.size
           have X3 := Lib.hid (X2.out.over (RdW.size H2.out).choose_spec.choose_spec.choose_spec.choose_spec.choose_spec.choose_spec tr_td hg)
           clear bn hg H2 D2 G2 B2 X2
           cases hin : (decide (kw = 1) && decide (tw = [105, 110])) with
           | true =>
            have Hin := Lib.hid hin
            have hnx : Hid (nextT 1 [105, 110] (treS L en K st).l = true) := by
             show _ = _
             rw [← hin, next1_pk, show pkL (treS L en K st).l = (kw, tw, aw) from hpw.out]
            clear hin
            go_wp2_with fail
            refine (pIsWord_c kw aw tw [105, 110] Hbw.out bytes_in _ Hin.out).mono ?_
            rintro e w4 ⟨rfl, bn⟩
            have hg := gr_of bn (some q)
            have H4 := Lib.hid (H3.out.below bn)
            have D4 := Lib.hid (D3.out.grown hg (fun e => hqd.out (by injection e)))
            have G4 := Lib.hid (G3.out.trans (Gd.of hg))
            have B4 : Hid (Bt ≤ w4.heap.size) := Nat.le_trans B3.out hg.size
            have X4 := Lib.hid (X3.out.over (RdW.size H3.out).choose_spec.choose_spec.choose_spec.choose_spec.choose_spec.choose_spec tr_td hg)
            clear bn hg H3 D3 G3 B3 X3
            obtain ⟨U, hU⟩ : ∃ X, X = strOf (takX en 4 (rdS (treS L en K st))) := ⟨_, rfl⟩
            have HU := Lib.hid hU
            clear hU
            go_wp2_with fail
            refine (pRead_c H4.out).mono ?_
            rintro e w5 ⟨rfl, h2, hg⟩
            have H5 := Lib.hid h2
            have D5 := Lib.hid (D4.out.grown hg (fun e => hqd.out (by injection e)))
            have G5 := Lib.hid (G4.out.trans (Gd.of hg))
            have B5 : Hid (Bt ≤ w5.heap.size) := Nat.le_trans B4.out hg.size
            have X5 := Lib.hid (X4.out.over (RdW.size H4.out).choose_spec.choose_spec.choose_spec.choose_spec.choose_spec.choose_spec tr_td hg)
            clear h2 hg H4 D4 G4 B4 X4
            go_wp2_with fail
            refine (pTake_s H5.out 4 HU.out.symm).mono ?_
            rintro e w6 ⟨rfl, h2, hg⟩
            have H6 := Lib.hid h2
            have D6 := Lib.hid (D5.out.grown hg (fun e => hqd.out (by injection e)))
            have G6 := Lib.hid (G5.out.trans (Gd.of hg))
            have B6 : Hid (Bt ≤ w6.heap.size) := Nat.le_trans B5.out hg.size
            have X6 := Lib.hid (X5.out.over (RdW.size H5.out).choose_spec.choose_spec.choose_spec.choose_spec.choose_spec.choose_spec tr_td hg)
            clear h2 hg H5 D5 G5 B5 X5
            have ck := D6.out.cell (k := 5) (v := .string ⟨#[]⟩) rfl
            have fk := D6.out.free 5
            have H7 := Lib.hid (H6.out.setD D6.out hqd2.out 5 (.string U))
            have D7 : Hid (RowA (w6.setCell ⟨gd, 5, none⟩ (.string U)) gd 49 (#[.int .i64 ((5 : Nat) : Int), .string nm, .string ot, .string ⟨#[]⟩, .string ⟨#[]⟩, .string U, .slice C m d, .int .i64 0, .int .i64 at0] : Array Value)) := D6.out.set 5 (.string U)
            have G7 := Lib.hid (G6.out.trans (Gd.set q gd w6 5 (.string U)))
            have B7 : Hid (Bt ≤ (w6.setCell ⟨gd, 5, none⟩ (.string U)).heap.size) := by show _ ≤ _; rw [World.size_setCell]; exact B6.out
            have X7 := Lib.hid (X6.out.over D6.out (by decide) (grown_set w6 gd 5 (.string U)))
            clear H6 D6 G6 B6 X6
            go_wp2_with fail
            generalize w6.setCell ⟨gd, 5, none⟩ (.string U) = w7 at *
            clear ck fk
            have ho1 : Hid (out1 en (treS L en K st) = takS en 4 (rdS (treS L en K st)) ∧ out1X en (treS L en K st) = takX en 4 (rdS (treS L en K st))) := by
             show _ ∧ _
             unfold out1 out1X
             rw [hnx.out]
             exact ⟨rfl, rfl⟩
            go_wp2_with fail
            refine (pSign_c H7.out 58 (by decide)).mono ?_
            rintro e w8 ⟨rfl, h2, hg⟩
            have H8 := Lib.hid h2
            have D8 := Lib.hid (D7.out.grown hg (fun e => hqd.out (by injection e)))
            have G8 := Lib.hid (G7.out.trans (Gd.of hg))
            have B8 : Hid (Bt ≤ w8.heap.size) := Nat.le_trans B7.out hg.size
            have X8 := Lib.hid (X7.out.over (RdW.size H7.out).choose_spec.choose_spec.choose_spec.choose_spec.choose_spec.choose_spec tr_td hg)
            clear h2 hg H7 D7 G7 B7 X7
            go_wp2_with fail
            refine (pSmall_c H8.out 2 60 (by decide)).mono ?_
            rintro e w9 ⟨Nn, rfl, hN, h2, hg, _⟩
            have HNn := Lib.hid hN
            have H9 := Lib.hid h2
            have D9 := Lib.hid (D8.out.grown hg (fun e => hqd.out (by injection e)))
            have G9 := Lib.hid (G8.out.trans (Gd.of hg))
            have B9 : Hid (Bt ≤ w9.heap.size) := Nat.le_trans B8.out hg.size
            have X9 := Lib.hid (X8.out.over (RdW.size H8.out).choose_spec.choose_spec.choose_spec.choose_spec.choose_spec.choose_spec tr_td hg)
            clear hN h2 hg H8 D8 G8 B8 X8
            have ck := D9.out.cell (k := 7) (v := .int .i64 0) rfl
            have fk := D9.out.free 7
            have H10 := Lib.hid (H9.out.setD D9.out hqd2.out 7 (.int .i64 Nn))
            have D10 : Hid (RowA (w9.setCell ⟨gd, 7, none⟩ (.int .i64 Nn)) gd 49 (#[.int .i64 ((5 : Nat) : Int), .string nm, .string ot, .string ⟨#[]⟩, .string ⟨#[]⟩, .string U, .slice C m d, .int .i64 Nn, .int .i64 at0] : Array Value)) := D9.out.set 7 (.int .i64 Nn)
            have G10 := Lib.hid (G9.out.trans (Gd.set q gd w9 7 (.int .i64 Nn)))
            have B10 : Hid (Bt ≤ (w9.setCell ⟨gd, 7, none⟩ (.int .i64 Nn)).heap.size) := by show _ ≤ _; rw [World.size_setCell]; exact B9.out
            have X10 := Lib.hid (X9.out.over D9.out (by decide) (grown_set w9 gd 7 (.int .i64 Nn)))
            clear H9 D9 G9 B9 X9
            go_wp2_with fail
            generalize w9.setCell ⟨gd, 7, none⟩ (.int .i64 Nn) = w10 at *
            clear ck fk
            go_wp2
            first | go_end0 | refine bodyPost_ret (results_none rfl _ _ _) rfl ?_
            refine ⟨rfl, C, m, d, ts, Nn, Bt, ?_, X10.out, ?_, ?_, B10.out, G10.out⟩
            · have h := D10.out
              show RowA _ _ _ (dcC _ nm ot (strOf []) (strOf []) (strOf (out1X en (treS L en K st))) _ _ _ _ _)
              rw [ho1.out.2, ← HU.out]
              exact h
            · intro e
              have e2 : (smlS en 2 60 (sgnS en [58] (out1 en (treS L en K st)))).E = 0 := e
              refine ⟨Hts.out (E_out1 (en := en) (E_sgn (E_sml e2))), ?_⟩
              rw [ho1.out.1] at e2
              have h3 := HNn.out e2
              rw [h3]
              show _ = (((smlV 2 (sgnS en [58] (out1 en (treS L en K st)))).getD 0 : Nat) : Int)
              rw [ho1.out.1]
            · have h := H10.out
              show RdW _ _ _ _ _ (smlS en 2 60 (sgnS en [58] (out1 en (treS L en K st))))
              rw [ho1.out.1]
              exact h
           | false =>
            have Hin := Lib.hid hin
            have hnx : Hid (nextT 1 [105, 110] (treS L en K st).l = false) := by
             show _ = _
             rw [← hin, next1_pk, show pkL (treS L en K st).l = (kw, tw, aw) from hpw.out]
            clear hin
            go_wp2_with fail
            refine (pIsWord_c kw aw tw [105, 110] Hbw.out bytes_in _ Hin.out).mono ?_
            rintro e w4 ⟨rfl, bn⟩
            have hg := gr_of bn (some q)
            have H4 := Lib.hid (H3.out.below bn)
            have D4 := Lib.hid (D3.out.grown hg (fun e => hqd.out (by injection e)))
            have G4 := Lib.hid (G3.out.trans (Gd.of hg))
            have B4 : Hid (Bt ≤ w4.heap.size) := Nat.le_trans B3.out hg.size
            have X4 := Lib.hid (X3.out.over (RdW.size H3.out).choose_spec.choose_spec.choose_spec.choose_spec.choose_spec.choose_spec tr_td hg)
            clear bn hg H3 D3 G3 B3 X3
            have ho1 : Hid (out1 en (treS L en K st) = treS L en K st ∧ out1X en (treS L en K st) = []) := by
             show _ ∧ _
             unfold out1 out1X
             rw [hnx.out]
             exact ⟨rfl, rfl⟩
            go_wp2_with fail
            refine (pSign_c H4.out 58 (by decide)).mono ?_
            rintro e w5 ⟨rfl, h2, hg⟩
            have H5 := Lib.hid h2
            have D5 := Lib.hid (D4.out.grown hg (fun e => hqd.out (by injection e)))
            have G5 := Lib.hid (G4.out.trans (Gd.of hg))
            have B5 : Hid (Bt ≤ w5.heap.size) := Nat.le_trans B4.out hg.size
            have X5 := Lib.hid (X4.out.over (RdW.size H4.out).choose_spec.choose_spec.choose_spec.choose_spec.choose_spec.choose_spec tr_td hg)
            clear h2 hg H4 D4 G4 B4 X4
            go_wp2_with fail
            refine (pSmall_c H5.out 2 60 (by decide)).mono ?_
            rintro e w6 ⟨Nn, rfl, hN, h2, hg, _⟩
            have HNn := Lib.hid hN
            have H6 := Lib.hid h2
            have D6 := Lib.hid (D5.out.grown hg (fun e => hqd.out (by injection e)))
            have G6 := Lib.hid (G5.out.trans (Gd.of hg))
            have B6 : Hid (Bt ≤ w6.heap.size) := Nat.le_trans B5.out hg.size
            have X6 := Lib.hid (X5.out.over (RdW.size H5.out).choose_spec.choose_spec.choose_spec.choose_spec.choose_spec.choose_spec tr_td hg)
            clear hN h2 hg H5 D5 G5 B5 X5
            have ck := D6.out.cell (k := 7) (v := .int .i64 0) rfl
            have fk := D6.out.free 7
            have H7 := Lib.hid (H6.out.setD D6.out hqd2.out 7 (.int .i64 Nn))
            have D7 : Hid (RowA (w6.setCell ⟨gd, 7, none⟩ (.int .i64 Nn)) gd 49 (#[.int .i64 ((5 : Nat) : Int), .string nm, .string ot, .string ⟨#[]⟩, .string ⟨#[]⟩, .string ⟨#[]⟩, .slice C m d, .int .i64 Nn, .int .i64 at0] : Array Value)) := D6.out.set 7 (.int .i64 Nn)
            have G7 := Lib.hid (G6.out.trans (Gd.set q gd w6 7 (.int .i64 Nn)))
            have B7 : Hid (Bt ≤ (w6.setCell ⟨gd, 7, none⟩ (.int .i64 Nn)).heap.size) := by show _ ≤ _; rw [World.size_setCell]; exact B6.out
            have X7 := Lib.hid (X6.out.over D6.out (by decide) (grown_set w6 gd 7 (.int .i64 Nn)))
            clear H6 D6 G6 B6 X6
            go_wp2_with fail
            generalize w6.setCell ⟨gd, 7, none⟩ (.int .i64 Nn) = w7 at *
            clear ck fk
            go_wp2
            first | go_end0 | refine bodyPost_ret (results_none rfl _ _ _) rfl ?_
            refine ⟨rfl, C, m, d, ts, Nn, Bt, ?_, X7.out, ?_, ?_, B7.out, G7.out⟩
            · have h := D7.out
              show RowA _ _ _ (dcC _ nm ot (strOf []) (strOf []) (strOf (out1X en (treS L en K st))) _ _ _ _ _)
              rw [ho1.out.2]
              exact h
            · intro e
              have e2 : (smlS en 2 60 (sgnS en [58] (out1 en (treS L en K st)))).E = 0 := e
              refine ⟨Hts.out (E_out1 (en := en) (E_sgn (E_sml e2))), ?_⟩
              rw [ho1.out.1] at e2
              have h3 := HNn.out e2
              rw [h3]
              show _ = (((smlV 2 (sgnS en [58] (out1 en (treS L en K st)))).getD 0 : Nat) : Int)
              rw [ho1.out.1]
            · have h := H7.out
              show RdW _ _ _ _ _ (smlS en 2 60 (sgnS en [58] (out1 en (treS L en K st))))
              rw [ho1.out.1]
              exact h
         · have e5 : ((k : Int) == 5) = false := by rw [beq_eq_false_iff_ne]; omega
           have hk0 := Lib.hid (And.intro k1 (And.intro k2 (And.intro k3 (And.intro k4 k5))))
           clear k1 k2 k3 k4 k5
           go_enter Tryd.func32, Tryd.ntmps32
           go_wp2
           first | go_end0 | refine bodyPost_ret (results_none rfl _ _ _) rfl ?_
           have eD : bodD L en K k st ⟨k0, n0, o0, [], [], [], [], 0, ap0⟩ = ⟨k0, n0, o0, [], [], [], [], 0, ap0⟩ := by unfold bodD; rw [if_neg hk0.out.1, if_neg hk0.out.2.1, if_neg hk0.out.2.2.1, if_neg hk0.out.2.2.2.1, if_neg hk0.out.2.2.2.2]
           have eS : bodS L en K k st = st := by unfold bodS; rw [if_neg hk0.out.1, if_neg hk0.out.2.1, if_neg hk0.out.2.2.1, if_neg hk0.out.2.2.2.1, if_neg hk0.out.2.2.2.2]
           rw [eD, eS]
           refine ⟨rfl, none, 0, 0, [], 0, B, ?_, OwnX.nil _, fun _ => ⟨rfl, rfl⟩, H0.out, B0.out, G0.out⟩
           exact D0.out
end
end Go.Proofs.YtheaepceghnkpaaDoor
