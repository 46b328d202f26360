/- Part 10 of the texts that the statements of this seat lean on: mathematics, and what functions answer, as contracts over memory; each part says its own conditions. -/
import Derived.Test.YtheaepceghnkpaaDoorM9
import Derived.Lib.LaidTab
import Derived.Lib.LaidU8
import Derived.Stop.LaidErr
/- What parse.Formula answers. Condition: a text of at most 10^9 bytes; the variables that parsing reads are laid. -/
namespace Go.Proofs.YtheaepceghnkpaaDoor
open Go.RowKit Limb
set_option linter.unusedVariables false
theorem lexR_many : ∀ (f a : Nat) (l : List Nat) (ts : List Tk), lexR f a l = .ok ts → ts.length ≤ l.length
 | 0, _, _, _, h => by cases h
 | f + 1, a, [], ts, h => by cases h; exact Nat.le_refl _
 | f + 1, a, c :: r, ts, h => by
  unfold lexR at h
  cases e : lexS c r with
  | bad => rw [e] at h; cases h
  | skip n =>
   rw [e] at h
   have hl := lexR_many f _ _ ts h
   rw [List.length_drop] at hl
   omega
  | tok k s n =>
   rw [e] at h
   have hn := lexS_len.2 k s n e
   dsimp only at h
   cases e2 : lexR f (a + n) ((c :: r).drop n) with
   | bad p => rw [e2] at h; cases h
   | ok us =>
    rw [e2] at h
    cases h
    have hl := lexR_many f _ _ us e2
    rw [List.length_drop] at hl
    rw [List.length_cons] at hl ⊢
    rw [List.length_cons]
    omega
theorem ini_len (L : Lim) (hL : L.Fit) (bs : List Nat) : (iniS L bs).l.length ≤ 4000 := by
 unfold iniS
 have h4 := hL.2.2.2
 split
 · exact Nat.zero_le _
 · cases e : lexT bs with
   | bad p => exact Nat.zero_le _
   | ok ts =>
    have := lexR_many _ _ _ _ (show lexR _ _ _ = .ok ts from e)
    show ts.length ≤ _
    omega
theorem ini_fu {L : Lim} (hL : L.Fit) (bs : List Nat) : Fu L (L.deep + 2) (nilS (iniS L bs)) := by
 have h1 := ini_len L hL bs
 have h2 := iniS_op L bs
 have hmu : mu (iniS L bs).l ≤ 4001 := by unfold mu; split <;> omega
 refine ⟨by omega, fun _ => ⟨?_, ?_⟩, ?_, ?_, ?_⟩
 · show (iniS L bs).op ≤ _; rw [h2.1]; exact Nat.zero_le _
 · show _ ≤ _ + (iniS L bs).op; omega
 · show (iniS L bs).op ≤ _; rw [h2.1]; exact Nat.zero_le _
 · show 0 + mu (iniS L bs).l ≤ _; omega
 · show (iniS L bs).mad + mu (iniS L bs).l ≤ _; rw [h2.2.1]; omega
set_option maxHeartbeats 4000000 in
set_option maxRecDepth 100000 in
theorem pFormula_c (s : ByteArray) (hs : s.size ≤ 1000000000) (a b c d : Int) (w : World) (T : PTab w) (ts : List Nd) (E P : Int) (hR : frmV (cutL a b c d) (bytesOf s) = (ts, E, P)) :
 Calls Tryd.prog 11 #[.string s, .agg #[.int .i64 a, .int .i64 b, .int .i64 c, .int .i64 d]] w fun e w' => ∃ A n c, e = .returned (.tuple #[.slice A n c, .agg (fltC E P)]) ∧ TreR w' A n c ts ∧ Below w.heap.size w w' := by
 have HT0 := Lib.hid T
 have b1 := below_new w (.cells #[.int .i64 a, .int .i64 b, .int .i64 c, .int .i64 d] 32)
 have b2 := below_new (w.alloc (.cells #[.int .i64 a, .int .i64 b, .int .i64 c, .int .i64 d] 32)) (.cells (fltC 0 0) 28)
 have b12 := below_two b1 b2
 have hZ := rowA_new (w.alloc (.cells #[.int .i64 a, .int .i64 b, .int .i64 c, .int .i64 d] 32)) 28 (fltC 0 0)
 have hLm := (rowA_new w 32 #[.int .i64 a, .int .i64 b, .int .i64 c, .int .i64 d]).below b2
 have HI := Lib.hid hLm.inV
 have HM : Hid (Many Tryd.prog 32 (#[.int .i64 a, .int .i64 b, .int .i64 c, .int .i64 d] : Array Value).size) := ⟨sizeLm, _, Tryd.underlying32, rfl⟩
 have HZ := Lib.hid hZ
 have HB := Lib.hid b12
 have HT := Lib.hid (T.below b12)
 have hgf : Hid (w.heap.size ≤ (w.alloc (.cells #[.int .i64 a, .int .i64 b, .int .i64 c, .int .i64 d] 32)).heap.size) := b1.size
 have hfw : Hid ((w.alloc (.cells #[.int .i64 a, .int .i64 b, .int .i64 c, .int .i64 d] 32)).heap.size < ((w.alloc (.cells #[.int .i64 a, .int .i64 b, .int .i64 c, .int .i64 d] 32)).alloc (.cells (fltC 0 0) 28)).heap.size) := hZ.lt
 clear b1 b2 b12 hZ hLm T
 go_enter Tryd.func11, Tryd.ntmps11
 go_wp2_with (refine wpList_loadV (by rfl) _ _ (by rfl) _ _ (by rfl) _ (by assumption) (by assumption) ?_)
 have esz : (w.alloc (.cells #[.int .i64 a, .int .i64 b, .int .i64 c, .int .i64 d] 32)).heap.size = w.heap.size + 1 := by simp
 rw [esz] at HZ hgf hfw
 clear esz
 obtain ⟨gf, hgf2⟩ : ∃ g, g = w.heap.size + 1 := ⟨_, rfl⟩
 rw [← hgf2] at HZ hgf hfw ⊢
 clear hgf2
 generalize (w.alloc (.cells #[.int .i64 a, .int .i64 b, .int .i64 c, .int .i64 d] 32)).alloc (.cells (fltC 0 0) 28) = w1 at *
 clear HI HM
 refine (pNew_c s hs a b c d w1 HT.out).mono ?_
 rintro e w2 ⟨q, rfl, hq, B, h2, hB, bn⟩
 have HB2 := Lib.hid (below_two HB.out bn)
 have HZ2 := Lib.hid (HZ.out.below bn)
 have H2 := Lib.hid h2
 have Hb := Lib.hid hB
 have hqf : Hid (q ≠ gf) := by show _ ≠ _; have := hfw.out; omega
 have hqw : Hid (w.heap.size ≤ q) := Nat.le_trans (Nat.le_trans hgf.out (Nat.le_of_lt hfw.out)) hq
 clear hq h2 hB bn HZ HB HT hfw
 have hL := cutL_fit a b c d
 have HL := Lib.hid hL
 have hen := length_bytesOf s
 have Hen := Lib.hid hen
 clear hL hen
 have hall := frm_all (K := ((cutL a b c d).deep + 2)) HL.out (Nat.le_refl _) hR
 rw [Hen.out] at hall
 have Hall := Lib.hid hall
 clear hall hR
 go_wp2_with fail
 refine (pTree_c H2.out Hb.out HL.out (ini_fu HL.out (bytesOf s))).mono ?_
 rintro e w3 ⟨C, m, dd, tsx, rfl, hO, hts, h3, hg⟩
 have H3 := Lib.hid h3
 have HO := Lib.hid hO
 have Hts := Lib.hid hts
 have HB3 := Lib.hid (below_gr HB2.out hg hqw.out)
 have HZ3 := Lib.hid (HZ2.out.grown hg (fun e => hqf.out (by injection e)))
 clear hO hts h3 hg H2 HB2 HZ2 Hb
 generalize hT0 : (treS (cutL a b c d) s.size ((cutL a b c d).deep + 2) (iniS (cutL a b c d) (bytesOf s))) = t0 at *
 have HT1 := Lib.hid hT0
 clear hT0
 cases hl : t0.l with
 | nil =>
  have hlf : Hid (decide (0 < t0.l.length) = false) := by show _ = _; rw [hl]; rfl
  have hfr : Hid (frmS (cutL a b c d) s.size ((cutL a b c d).deep + 2) (iniS (cutL a b c d) (bytesOf s)) = t0) := by show _ = _; unfold frmS; rw [HT1.out, if_pos hl]
  clear hl
  have HO3 := Lib.hid HO.out.x
  clear HO
  go_wp2_with fail
  have hmo := pMore_c H3.out
  rw [hlf.out] at hmo
  refine hmo.mono ?_
  clear hmo
  rintro e wY ⟨rfl, rfl⟩
  by_cases hE : E = 0
  · subst hE
    obtain ⟨k1, rfl, k3⟩ := Hall.out.1 rfl
    have hE0 : Hid (t0.E = 0) := by show _ = _; rw [← hfr.out]; exact k3
    have htt : Hid (tsx = ts) := by show _ = _; rw [Hts.out hE0.out]; exact k1
    clear k1 k3
    go_wp2_with fail
    have hfa := pFaulty_c H3.out
    rw [hE0.out] at hfa
    refine hfa.mono ?_
    clear hfa
    rintro e wZ ⟨rfl, rfl⟩
    have HRf := Lib.hid (RowA.fill HZ3.out (V' := fltC 0 0))
    have hgz := gr_row wZ gf (fltC 0 0)
    have HBf := Lib.hid (below_fillRow HB3.out hgf.out (fltC 0 0))
    skip
    have HTr : Hid (TreR (wZ.setRow gf (fltC 0 0)) C m dd ts) := by
     have h := HO3.out.over HZ3.out (by decide) hgz
     rw [htt.out] at h
     exact h.tree
    clear hgz
    go_wp2_with (refine wpList_storeV (by rfl) _ _ _ (by rfl) _ (by rfl) _ (by rfl) _ _ (by assumption) (Lib.hid (fitsF 0 0)) ?_)
    refine bodyPost_ret (results_mixed2 rfl _ _ _ 28 (fltC 0 0) (0, 0) _ (.slice C m dd) rfl rfl HRf.out Tryd.underlying28 rfl sizeF) rfl ?_
    exact ⟨_, _, _, rfl, HTr.out, HBf.out⟩
  · obtain ⟨rfl, k2, k3⟩ := Hall.out.2 hE
    have hEP : Hid (t0.E = E ∧ t0.P = P) := by show _ ∧ _; rw [← hfr.out]; exact ⟨k2, k3⟩
    have hfE : Hid ((!decide (t0.E = 0)) = true) := by show _ = _; rw [hEP.out.1, decide_eq_false hE]; rfl
    clear k2 k3 hE
    go_wp2_with fail
    have hfa := pFaulty_c H3.out
    rw [hfE.out] at hfa
    refine hfa.mono ?_
    clear hfa
    rintro e wZ ⟨rfl, rfl⟩
    generalize wZ = w13 at *
    obtain ⟨A8, n8, c8, C8, m8, d8, r8⟩ := H3.out.size
    rw [hEP.out.1, hEP.out.2] at r8
    have c6 := r8.cell (k := 6) (v := .int .i64 E) rfl
    have c7 := r8.cell (k := 7) (v := .int .i64 P) rfl
    have y6 := r8.drew.cell (k := 6) (v := .int .i64 E) rfl
    have y7 := r8.drew.cell (k := 7) (v := .int .i64 P) rfl
    have z0 := HZ3.out.cell (k := 0) (v := .int .i64 0) rfl
    have z1 := HZ3.out.cell (k := 1) (v := .int .i64 0) rfl
    have f0 := HZ3.out.free 0
    have f1 := HZ3.out.free 1
    have x0 := HZ3.out.drew.cell (k := 0) (v := .int .i64 0) rfl
    have x1 := HZ3.out.drew.cell (k := 1) (v := .int .i64 0) rfl
    clear r8
    go_wp2_with fail
    go_region
    have HR : Hid (RowA ((w13.setCell ⟨gf, 0, none⟩ (.int .i64 E)).setCell ⟨gf, 1, none⟩ (.int .i64 P)).drew gf 28 (fltC E P)) := (((HZ3.out.set 0 (.int .i64 E)).set 1 (.int .i64 P)).drew :)
    have HBf : Hid (Below w.heap.size w ((w13.setCell ⟨gf, 0, none⟩ (.int .i64 E)).setCell ⟨gf, 1, none⟩ (.int .i64 P)).drew) := (below_set (below_set HB3.out hgf.out 0 _) hgf.out 1 _).drew
    clear c6 c7 y6 y7 z0 z1 f0 f1 x0 x1
    go_wp2_with fail
    refine bodyPost_ret (results_mixed2 rfl _ _ _ 28 (fltC E P) (0, 0) _ (.slice none 0 0) rfl rfl HR.out Tryd.underlying28 rfl sizeF) rfl ?_
    exact ⟨none, 0, 0, rfl, TreR.nil _ (Nat.zero_le _), HBf.out⟩
 | cons tz rz =>
  have hlf : Hid (decide (0 < t0.l.length) = true) := by show _ = _; rw [hl]; simp
  have hfr : Hid (frmS (cutL a b c d) s.size ((cutL a b c d).deep + 2) (iniS (cutL a b c d) (bytesOf s)) = refS s.size t0) := by show _ = _; unfold frmS; rw [HT1.out, if_neg (by rw [hl]; simp)]
  clear hl
  go_wp2_with fail
  have hmo := pMore_c H3.out
  rw [hlf.out] at hmo
  refine hmo.mono ?_
  clear hmo
  rintro e wY ⟨rfl, rfl⟩
  go_wp2_with fail
  refine (pRefuse_c H3.out).mono ?_
  rintro e w4 ⟨rfl, h4, hg⟩
  have H4 := Lib.hid h4
  have HO4 := Lib.hid (HO.out.x.over (RdW.size H3.out).choose_spec.choose_spec.choose_spec.choose_spec.choose_spec.choose_spec tr_td hg)
  have HB4 := Lib.hid (below_gr HB3.out hg hqw.out)
  have HZ4 := Lib.hid (HZ3.out.grown hg (fun e => hqf.out (by injection e)))
  clear h4 hg H3 HB3 HZ3 HO
  by_cases hE : E = 0
  · subst hE
    obtain ⟨k1, rfl, k3⟩ := Hall.out.1 rfl
    have hE0 : Hid ((refS s.size t0).E = 0) := by show _ = _; rw [← hfr.out]; exact k3
    have htt : Hid (tsx = ts) := by show _ = _; rw [Hts.out (E_fail (show (refS s.size t0).E = 0 from hE0.out))]; exact k1
    clear k1 k3
    go_wp2_with fail
    have hfa := pFaulty_c H4.out
    rw [hE0.out] at hfa
    refine hfa.mono ?_
    clear hfa
    rintro e wZ ⟨rfl, rfl⟩
    have HRf := Lib.hid (RowA.fill HZ4.out (V' := fltC 0 0))
    have hgz := gr_row wZ gf (fltC 0 0)
    have HBf := Lib.hid (below_fillRow HB4.out hgf.out (fltC 0 0))
    skip
    have HTr : Hid (TreR (wZ.setRow gf (fltC 0 0)) C m dd ts) := by
     have h := HO4.out.over HZ4.out (by decide) hgz
     rw [htt.out] at h
     exact h.tree
    clear hgz
    go_wp2_with (refine wpList_storeV (by rfl) _ _ _ (by rfl) _ (by rfl) _ (by rfl) _ _ (by assumption) (Lib.hid (fitsF 0 0)) ?_)
    refine bodyPost_ret (results_mixed2 rfl _ _ _ 28 (fltC 0 0) (0, 0) _ (.slice C m dd) rfl rfl HRf.out Tryd.underlying28 rfl sizeF) rfl ?_
    exact ⟨_, _, _, rfl, HTr.out, HBf.out⟩
  · obtain ⟨rfl, k2, k3⟩ := Hall.out.2 hE
    have hEP : Hid ((refS s.size t0).E = E ∧ (refS s.size t0).P = P) := by show _ ∧ _; rw [← hfr.out]; exact ⟨k2, k3⟩
    have hfE : Hid ((!decide ((refS s.size t0).E = 0)) = true) := by show _ = _; rw [hEP.out.1, decide_eq_false hE]; rfl
    clear k2 k3 hE
    go_wp2_with fail
    have hfa := pFaulty_c H4.out
    rw [hfE.out] at hfa
    refine hfa.mono ?_
    clear hfa
    rintro e wZ ⟨rfl, rfl⟩
    generalize wZ = w14 at *
    obtain ⟨A8, n8, c8, C8, m8, d8, r8⟩ := H4.out.size
    rw [hEP.out.1, hEP.out.2] at r8
    have c6 := r8.cell (k := 6) (v := .int .i64 E) rfl
    have c7 := r8.cell (k := 7) (v := .int .i64 P) rfl
    have y6 := r8.drew.cell (k := 6) (v := .int .i64 E) rfl
    have y7 := r8.drew.cell (k := 7) (v := .int .i64 P) rfl
    have z0 := HZ4.out.cell (k := 0) (v := .int .i64 0) rfl
    have z1 := HZ4.out.cell (k := 1) (v := .int .i64 0) rfl
    have f0 := HZ4.out.free 0
    have f1 := HZ4.out.free 1
    have x0 := HZ4.out.drew.cell (k := 0) (v := .int .i64 0) rfl
    have x1 := HZ4.out.drew.cell (k := 1) (v := .int .i64 0) rfl
    clear r8
    go_wp2_with fail
    go_region
    have HR : Hid (RowA ((w14.setCell ⟨gf, 0, none⟩ (.int .i64 E)).setCell ⟨gf, 1, none⟩ (.int .i64 P)).drew gf 28 (fltC E P)) := (((HZ4.out.set 0 (.int .i64 E)).set 1 (.int .i64 P)).drew :)
    have HBf : Hid (Below w.heap.size w ((w14.setCell ⟨gf, 0, none⟩ (.int .i64 E)).setCell ⟨gf, 1, none⟩ (.int .i64 P)).drew) := (below_set (below_set HB4.out hgf.out 0 _) hgf.out 1 _).drew
    clear c6 c7 y6 y7 z0 z1 f0 f1 x0 x1
    go_wp2_with fail
    refine bodyPost_ret (results_mixed2 rfl _ _ _ 28 (fltC E P) (0, 0) _ (.slice none 0 0) rfl rfl HR.out Tryd.underlying28 rfl sizeF) rfl ?_
    exact ⟨none, 0, 0, rfl, TreR.nil _ (Nat.zero_le _), HBf.out⟩
end Go.Proofs.YtheaepceghnkpaaDoor

/- What parse.Script answers. Condition: a text of at most 10^9 bytes; the variables that parsing reads are laid. -/
namespace Go.Proofs.YtheaepceghnkpaaDoor
open Go.RowKit Limb
set_option linter.unusedVariables false
theorem pDecl_x {w : World} {B q en : Nat} {L : Lim} {st : St} (h : RdW w B q en L st) (hB : B ≤ w.heap.size) (hL : L.Fit) {K : Nat} (i : Nat) (hfu : Fu L K (nilS (dec4 en i st))) :
 Calls Tryd.prog 14 #[.pointer (some ⟨q, 0, none⟩), .int .i64 (i : Int)] w fun x w' => ∃ (y : DS) (B2 : Nat), x = .returned (.agg (dcV y)) ∧ OwnX w' y.A y.n y.c y.d.tr ∧ ((dclS L en K i st).E = 0 → y.d = decD L en K i st) ∧ RdW w' B2 q en L (dclS L en K i st) ∧ B2 ≤ w'.heap.size ∧ w.grownBy w' (some q) :=
 (pDecl_c h hB hL i hfu).mono fun x w' k => by
   obtain ⟨A, n, c, ts, pl, B2, k1, k2, k3, k4, k5, k6⟩ := k
   refine ⟨_, B2, k1, k2, fun e => ?_, k4, k5, k6⟩
   obtain ⟨e1, e2⟩ := k3 e
   dsimp only
   rw [e1, e2]
theorem pDecl_y {w : World} {B q en : Nat} {L : Lim} {st : St} (h : RdW w B q en L st) (hB : B ≤ w.heap.size) (hL : L.Fit) {K : Nat} (i : Nat) (hfu : Fu L K (nilS (dec4 en i st))) :
 Calls Tryd.prog 14 #[.pointer (some ⟨q, 0, none⟩), .int .i64 (i : Int)] w fun x w' => ∃ (kk : Int) (nm ot nu va un : ByteArray) (Ay : Option Addr) (ny cy : Nat) (pl ap : Int) (y : DS) (B2 : Nat), x = .returned (.agg (dcC kk nm ot nu va un Ay ny cy pl ap)) ∧ Hid (dcV y = dcC kk nm ot nu va un Ay ny cy pl ap) ∧ OwnX w' y.A y.n y.c y.d.tr ∧ ((dclS L en K i st).E = 0 → y.d = decD L en K i st) ∧ RdW w' B2 q en L (dclS L en K i st) ∧ B2 ≤ w'.heap.size ∧ w.grownBy w' (some q) :=
 (pDecl_x h hB hL i hfu).mono fun x w' k => by
   obtain ⟨y, B2, k1, k2, k3, k4, k5, k6⟩ := k
   exact ⟨_, _, _, _, _, _, _, _, _, _, _, y, B2, k1, rfl, k2, k3, k4, k5, k6⟩
theorem RdW.own {w w' : World} {B q en n c : Nat} {L : Lim} {st : St} {A : Option Addr} {xs : List DS} (h : RdW w B q en L st) (ho : OwnD w (q + 1) A n c xs) (hg : w.grownBy w' (Value.ownBlock (.slice A n c))) : RdW w' B q en L st := by
 cases e : Value.ownBlock (.slice A n c) with
 | none =>
  rw [e] at hg
  exact h.below ⟨hg.os, hg.tape, hg.output, hg.size, fun i hi => hg.block i hi (fun e => by cases e)⟩
 | some g =>
  obtain ⟨V, hr⟩ := ho.rowA e
  have hlt := (ho.2.lt g e).1
  rw [e] at hg
  exact h.oth hr (by decide) (by decide) (by omega) hg
theorem OwnD.q {w w' : World} {B B0 q en n c : Nat} {L : Lim} {st : St} {A : Option Addr} {xs : List DS} (ho : OwnD w B0 A n c xs) (h : RdW w B q en L st) (hg : w.grownBy w' (some q)) : OwnD w' B0 A n c xs := by
 obtain ⟨_, _, _, _, _, _, hr⟩ := h.size
 exact ⟨ho.1, ho.2.over hg fun g e => by cases e; exact ho.2.differ hr (by decide)⟩
set_option maxHeartbeats 4000000 in
set_option maxRecDepth 100000 in
theorem pScript_c (s : ByteArray) (hs : s.size ≤ 1000000000) (a b c d : Int) (w : World) (T : PTab w) (ds : List Dc) (E P : Int) (hR : scrV (cutL a b c d) (bytesOf s) = (ds, E, P)) :
 Calls Tryd.prog 6 #[.string s, .agg #[.int .i64 a, .int .i64 b, .int .i64 c, .int .i64 d]] w fun e w' => ∃ A n c, e = .returned (.tuple #[.slice A n c, .agg (fltC E P)]) ∧ DcR w' A n c ds ∧ Below w.heap.size w w' := by
 have HT0 := Lib.hid T
 have b1 := below_new w (.cells #[.int .i64 a, .int .i64 b, .int .i64 c, .int .i64 d] 32)
 have b2 := below_new (w.alloc (.cells #[.int .i64 a, .int .i64 b, .int .i64 c, .int .i64 d] 32)) (.cells (fltC 0 0) 28)
 have b12 := below_two b1 b2
 have hZ := rowA_new (w.alloc (.cells #[.int .i64 a, .int .i64 b, .int .i64 c, .int .i64 d] 32)) 28 (fltC 0 0)
 have hLm := (rowA_new w 32 #[.int .i64 a, .int .i64 b, .int .i64 c, .int .i64 d]).below b2
 have HI := Lib.hid hLm.inV
 have HM : Hid (Many Tryd.prog 32 (#[.int .i64 a, .int .i64 b, .int .i64 c, .int .i64 d] : Array Value).size) := ⟨sizeLm, _, Tryd.underlying32, rfl⟩
 have HZ := Lib.hid hZ
 have HB := Lib.hid b12
 have HT := Lib.hid (T.below b12)
 have hgf : Hid (w.heap.size ≤ (w.alloc (.cells #[.int .i64 a, .int .i64 b, .int .i64 c, .int .i64 d] 32)).heap.size) := b1.size
 have hfw : Hid ((w.alloc (.cells #[.int .i64 a, .int .i64 b, .int .i64 c, .int .i64 d] 32)).heap.size < ((w.alloc (.cells #[.int .i64 a, .int .i64 b, .int .i64 c, .int .i64 d] 32)).alloc (.cells (fltC 0 0) 28)).heap.size) := hZ.lt
 clear b1 b2 b12 hZ hLm T
 go_enter Tryd.func6, Tryd.ntmps6
 go_wp2_with (refine wpList_loadV (by rfl) _ _ (by rfl) _ _ (by rfl) _ (by assumption) (by assumption) ?_)
 have esz : (w.alloc (.cells #[.int .i64 a, .int .i64 b, .int .i64 c, .int .i64 d] 32)).heap.size = w.heap.size + 1 := by simp
 rw [esz] at HZ hgf hfw
 clear esz
 obtain ⟨gf, hgf2⟩ : ∃ g, g = w.heap.size + 1 := ⟨_, rfl⟩
 rw [← hgf2] at HZ hgf hfw ⊢
 clear hgf2
 generalize (w.alloc (.cells #[.int .i64 a, .int .i64 b, .int .i64 c, .int .i64 d] 32)).alloc (.cells (fltC 0 0) 28) = w1 at *
 clear HI HM
 refine (pNew_c s hs a b c d w1 HT.out).mono ?_
 rintro e w2 ⟨q, rfl, hq, B, h2, hB, bn⟩
 have HB2 := Lib.hid (below_two HB.out bn)
 have HZ2 := Lib.hid (HZ.out.below bn)
 have H2 := Lib.hid h2
 have Hb := Lib.hid hB
 have hqf : Hid (q ≠ gf) := by show _ ≠ _; have := hfw.out; omega
 have hqw : Hid (w.heap.size ≤ q) := Nat.le_trans (Nat.le_trans hgf.out (Nat.le_of_lt hfw.out)) hq
 clear hq h2 hB bn HZ HB HT hfw
 have hL := cutL_fit a b c d
 have HL := Lib.hid hL
 have hen := length_bytesOf s
 have Hen := Lib.hid hen
 clear hL hen
 have hall := scr_all (K := ((cutL a b c d).deep + 2)) HL.out (Nat.le_refl _) (ini_len (cutL a b c d) HL.out (bytesOf s)) hR
 rw [Hen.out] at hall
 obtain ⟨dsT, F, hF⟩ : ∃ x F, scrS (cutL a b c d) s.size ((cutL a b c d).deep + 2) 4000 0 (iniS (cutL a b c d) (bytesOf s)) = (x, F) := ⟨_, _, rfl⟩
 rw [hF] at hall
 have Hall := Lib.hid hall
 have HF := Lib.hid hF
 clear hall hR hF
 have hS0 : Hid ((iniS (cutL a b c d) (bytesOf s)).l.length ≤ 4000 ∧ ((iniS (cutL a b c d) (bytesOf s)).E = 0 → (iniS (cutL a b c d) (bytesOf s)).mad ≤ (cutL a b c d).nodes ∧ (iniS (cutL a b c d) (bytesOf s)).op = 0)) := ⟨ini_len (cutL a b c d) HL.out _, fun _ => ⟨by rw [(iniS_op (cutL a b c d) (bytesOf s)).2.1]; exact Nat.zero_le _, (iniS_op (cutL a b c d) (bytesOf s)).1⟩⟩
 generalize (iniS (cutL a b c d) (bytesOf s)) = st0 at *
 go_wp2
 go_loopw [7] (fun sl wr => ∃ (n c0 : Nat) (A : Option Addr) (xs : List DS) (st : St) (g B : Nat) (dn rs : List Dc), sl = .slice A n c0 ∧ Hid (OwnD wr (q + 1) A n c0 xs) ∧ Hid (DsO wr xs) ∧ Hid (RdW wr B q s.size (cutL a b c d) st) ∧ Hid (B ≤ wr.heap.size) ∧ Hid (Below w.heap.size w wr) ∧ Hid (RowA wr gf 28 (fltC 0 0)) ∧ Hid (st.l.length ≤ g ∧ scrS (cutL a b c d) s.size ((cutL a b c d).deep + 2) g n st = (rs, F) ∧ dsT = dn ++ rs ∧ dn.length = n ∧ (st.E = 0 → xs.map DS.d = dn) ∧ (st.E = 0 → st.mad ≤ (cutL a b c d).nodes ∧ st.op = 0) ∧ n + st.l.length ≤ 4000)) (fun _ wr => tlen q wr)
 case atStart => exact ⟨0, 0, none, [], st0, 4000, B, [], dsT, rfl, ⟨rfl, OwnR.nil _ _ _ _⟩, fun x hx => (by cases hx), H2, Hb, HB2, HZ2, ⟨hS0.out.1, HF.out, rfl, rfl, fun _ => rfl, hS0.out.2, by have := hS0.out.1; omega⟩⟩
 case round =>
  clear H2 Hb HB2 HZ2 hS0 HF
  obtain ⟨n, c0, A, xs, st, g, B, dn, rs, rfl, HO, HD, H3, HBb, HB3, HZ3, HI⟩ := hrel
  cases hl : st.l with
  | nil =>
   have hlf : Hid (decide (0 < st.l.length) = false) := by show _ = _; rw [hl]; rfl
   have hsr : rs = [] ∧ F = st := by
    have h := HI.out.2.1
    rw [scrS_nil _ _ _ _ _ hl] at h
    injection h with h1 h2
    exact ⟨h1.symm, h2.symm⟩
   obtain ⟨hrs, hFs⟩ := hsr
   have HFs := Lib.hid hFs
   have hdT : Hid (dsT = dn) := by show _ = _; rw [HI.out.2.2.1, hrs, List.append_nil]
   clear hl hrs hFs
   go_wp2_with fail
   have hmo := pMore_c H3.out
   rw [hlf.out] at hmo
   refine hmo.mono ?_
   clear hmo
   rintro e wY ⟨rfl, rfl⟩
   by_cases hE : E = 0
   · subst hE
     obtain ⟨k1, rfl, k3⟩ := Hall.out.1 rfl
     have hE0 : Hid (st.E = 0) := by show _ = _; rw [← HFs.out]; exact k3
     have hmap : Hid (xs.map DS.d = ds) := by show _ = _; rw [HI.out.2.2.2.2.1 hE0.out, ← hdT.out]; exact k1
     clear k1 k3
     go_wp2_with fail
     have hfa := pFaulty_c H3.out
     rw [hE0.out] at hfa
     refine hfa.mono ?_
     clear hfa
     rintro e wZ ⟨rfl, rfl⟩
     have HRf := Lib.hid (RowA.fill HZ3.out (V' := fltC 0 0))
     have hgz := gr_row wZ gf (fltC 0 0)
     have HBf := Lib.hid (below_fillRow HB3.out hgf.out (fltC 0 0))
     skip
     have HTr : Hid (DcR (wZ.setRow gf (fltC 0 0)) A n c0 ds) := by
      have h1 : OwnD (wZ.setRow gf (fltC 0 0)) (q + 1) A n c0 xs := ⟨HO.out.1, HO.out.2.over hgz (fun k e => by cases e; exact HO.out.2.differ HZ3.out (by decide))⟩
      have h2 : DsO (wZ.setRow gf (fltC 0 0)) xs := HD.out.over HZ3.out (by decide) hgz
      have h := h1.row h2.dsr
      rw [hmap.out] at h
      exact h
     clear hgz
     go_wp2_with (refine wpList_storeV (by rfl) _ _ _ (by rfl) _ (by rfl) _ (by rfl) _ _ (by assumption) (Lib.hid (fitsF 0 0)) ?_)
     refine bodyPost_ret (results_mixed2 rfl _ _ _ 28 (fltC 0 0) (0, 0) _ (.slice A n c0) rfl rfl HRf.out Tryd.underlying28 rfl sizeF) rfl ?_
     exact ⟨_, _, _, rfl, HTr.out, HBf.out⟩
   · obtain ⟨rfl, k2, k3⟩ := Hall.out.2 hE
     have hEP : Hid (st.E = E ∧ st.P = P) := by show _ ∧ _; rw [← HFs.out]; exact ⟨k2, k3⟩
     have hfE : Hid ((!decide (st.E = 0)) = true) := by show _ = _; rw [hEP.out.1, decide_eq_false hE]; rfl
     clear k2 k3 hE
     go_wp2_with fail
     have hfa := pFaulty_c H3.out
     rw [hfE.out] at hfa
     refine hfa.mono ?_
     clear hfa
     rintro e w13 ⟨rfl, rfl⟩
     obtain ⟨A8, n8, c8, C8, m8, d8, r8⟩ := H3.out.size
     rw [hEP.out.1, hEP.out.2] at r8
     have c6 := r8.cell (k := 6) (v := .int .i64 E) rfl
     have c7 := r8.cell (k := 7) (v := .int .i64 P) rfl
     have y6 := r8.drew.cell (k := 6) (v := .int .i64 E) rfl
     have y7 := r8.drew.cell (k := 7) (v := .int .i64 P) rfl
     have z0 := HZ3.out.cell (k := 0) (v := .int .i64 0) rfl
     have z1 := HZ3.out.cell (k := 1) (v := .int .i64 0) rfl
     have f0 := HZ3.out.free 0
     have f1 := HZ3.out.free 1
     have x0 := HZ3.out.drew.cell (k := 0) (v := .int .i64 0) rfl
     have x1 := HZ3.out.drew.cell (k := 1) (v := .int .i64 0) rfl
     clear r8
     go_wp2_with fail
     go_region
     have HR : Hid (RowA ((w13.setCell ⟨gf, 0, none⟩ (.int .i64 E)).setCell ⟨gf, 1, none⟩ (.int .i64 P)).drew gf 28 (fltC E P)) := (((HZ3.out.set 0 (.int .i64 E)).set 1 (.int .i64 P)).drew :)
     have HBf : Hid (Below w.heap.size w ((w13.setCell ⟨gf, 0, none⟩ (.int .i64 E)).setCell ⟨gf, 1, none⟩ (.int .i64 P)).drew) := (below_set (below_set HB3.out hgf.out 0 _) hgf.out 1 _).drew
     clear c6 c7 y6 y7 z0 z1 f0 f1 x0 x1
     go_wp2_with fail
     refine bodyPost_ret (results_mixed2 rfl _ _ _ 28 (fltC E P) (0, 0) _ (.slice none 0 0) rfl rfl HR.out Tryd.underlying28 rfl sizeF) rfl ?_
     exact ⟨none, 0, 0, rfl, DcR.nil _ (Nat.zero_le _), HBf.out⟩
  | cons tz rz =>
   have Hne : Hid (st.l ≠ []) := by show _ ≠ _; rw [hl]; simp
   have hlf : Hid (decide (0 < st.l.length) = true) := by show _ = _; rw [hl]; simp
   have hE0 : Hid (st.E = 0) := by show _ = _; exact Classical.byContradiction fun h => Hne.out (H3.out.inv h)
   clear hl
   obtain ⟨i1, i2, i3, i4, i5, i6, i7⟩ := HI.out
   have hfu : Hid (Fu (cutL a b c d) ((cutL a b c d).deep + 2) (nilS (dec4 s.size n st))) := dec4_fu HL.out (Nat.le_refl _) (i6 hE0.out).2 (Nat.le_trans (i6 hE0.out).1 HL.out.1) (by omega)
   have hn6 : Hid (n ≤ 1000000) := by show _ ≤ _; omega
   have hncap := HO.out.2.caps
   have hn0 : (n : Int) ≤ 4000 := by omega
   clear i1 i2 i3 i4 i5 i6 i7
   go_wp2_with fail
   have hmo := pMore_c H3.out
   rw [hlf.out] at hmo
   refine hmo.mono ?_
   clear hmo
   rintro e wY ⟨rfl, rfl⟩
   go_wp2_with fail
   refine (pDecl_y H3.out HBb.out HL.out n hfu.out).mono ?_
   rintro e w4 ⟨kk, nm, ot, nu, va, un, Ay, ny, cy, pl, ap, y, B4, rfl, hyV, hT, hy, h4, hB4, hg⟩
   have HO4 := HO.out.q H3.out hg
   have HD4 := HD.out.over (RdW.size H3.out).choose_spec.choose_spec.choose_spec.choose_spec.choose_spec.choose_spec tr_td hg
   have HZ4 := HZ3.out.grown hg (fun e => hqf.out (by injection e))
   have HB4 := below_gr HB3.out hg hqw.out
   have b5 := below_new w4 (.cells (dcC kk nm ot nu va un Ay ny cy pl ap) 49)
   have HOo : Hid (OwnR (w4.alloc (.cells (dcC kk nm ot nu va un Ay ny cy pl ap) 49)) (q + 1) 49 9 A n c0 (dcCells xs)) := (HO4.below b5).2
   have HOd : Hid (OwnD (w4.alloc (.cells (dcC kk nm ot nu va un Ay ny cy pl ap) 49)) (q + 1) A n c0 xs) := HO4.below b5
   have HD5 := Lib.hid (HD4.below b5)
   have HT5 := Lib.hid (hT.below b5)
   have HZ5 := Lib.hid (HZ4.below b5)
   have H5 := Lib.hid (h4.below b5)
   have HB5 := Lib.hid (below_two HB4 b5)
   have hb5 : Hid (B4 ≤ (w4.alloc (.cells (dcC kk nm ot nu va un Ay ny cy pl ap) 49)).heap.size) := Nat.le_trans hB4 b5.size
   have HLx : Hid (RowA (w4.alloc (.cells (dcC kk nm ot nu va un Ay ny cy pl ap) 49)) w4.heap.size 49 (dcC kk nm ot nu va un Ay ny cy pl ap) ∧ (dcC kk nm ot nu va un Ay ny cy pl ap).size = 9 ∧ ∀ v ∈ (dcC kk nm ot nu va un Ay ny cy pl ap), v.oneCell' = true) := ⟨rowA_new _ _ _, rfl, by simp [Value.oneCell']⟩
   have HEx : Hid (n ≤ 1000000 ∧ q + 1 ≤ (w4.alloc (.cells (dcC kk nm ot nu va un Ay ny cy pl ap) 49)).heap.size) := ⟨hn6.out, H5.out.lt⟩
   have Hy := Lib.hid hy
   clear hT hy h4 hB4 hg HO4 HD4 HZ4 HB4 b5
   skip
   have HI0 := HI
   go_wp2_with (at_builtin; refine wpList_append_one rfl _ _ 25 rfl (q + 1) 49 9 dcs_elem A n c0 (dcCells xs) (by rfl) HOo w4.heap.size (by rfl) 49 (dcC kk nm ot nu va un Ay ny cy pl ap) HLx HEx ?_)
   intro A6 c6 w6 hO6 hg6
   have HO6 : Hid (OwnD w6 (q + 1) A6 (n + 1) c6 (xs ++ [y])) := by
    refine ⟨by rw [List.length_append, ← HOd.out.1]; rfl, ?_⟩
    rw [dcCells_snoc, hyV.out]
    exact hO6.out
   have HD6 : Hid (DsO w6 (xs ++ [y])) := (HD5.out.grown HOd.out hg6.out).snoc (HT5.out.grown HOd.out hg6.out)
   have H6 := Lib.hid (H5.out.own HOd.out hg6.out)
   have hb6 : Hid (B4 ≤ w6.heap.size) := Nat.le_trans hb5.out hg6.out.size
   have HB6 : Hid (Below w.heap.size w w6) := HB5.out.grown hg6.out HB5.out.size fun k hk => by have h9 := HOd.out.2.lt k hk; have := hqw.out; omega
   have HZ6 : Hid (RowA w6 gf 28 (fltC 0 0)) := HZ5.out.grown hg6.out (HOd.out.2.differ HZ5.out (by decide))
   have hdl := dec_len (cutL a b c d) s.size ((cutL a b c d).deep + 2) n Hne.out
   obtain ⟨i1, i2, i3, i4, i5, i6, i7⟩ := HI.out
   obtain ⟨g, rfl⟩ : ∃ m, g = m + 1 := ⟨g - 1, by have := List.length_pos_iff.2 Hne.out; omega⟩
   have hsc : scrS (cutL a b c d) s.size ((cutL a b c d).deep + 2) (g + 1) n st = (decD (cutL a b c d) s.size ((cutL a b c d).deep + 2) n st :: (scrS (cutL a b c d) s.size ((cutL a b c d).deep + 2) g (n + 1) (dclS (cutL a b c d) s.size ((cutL a b c d).deep + 2) n st)).1, (scrS (cutL a b c d) s.size ((cutL a b c d).deep + 2) g (n + 1) (dclS (cutL a b c d) s.size ((cutL a b c d).deep + 2) n st)).2) := by
    show (if st.l = [] then _ else _) = _
    rw [if_neg Hne.out]
   rw [hsc] at i2
   injection i2 with i2a i2b
   have hki := dec_ki (L := (cutL a b c d)) (en := s.size) (K := ((cutL a b c d).deep + 2)) (i := n) hE0.out (i6 hE0.out).1 (i6 hE0.out).2 Hne.out (Nat.le_refl _)
   have HI6 : Hid ((dclS (cutL a b c d) s.size ((cutL a b c d).deep + 2) n st).l.length ≤ g ∧ scrS (cutL a b c d) s.size ((cutL a b c d).deep + 2) g (n + 1) (dclS (cutL a b c d) s.size ((cutL a b c d).deep + 2) n st) = ((scrS (cutL a b c d) s.size ((cutL a b c d).deep + 2) g (n + 1) (dclS (cutL a b c d) s.size ((cutL a b c d).deep + 2) n st)).1, F) ∧ dsT = (dn ++ [decD (cutL a b c d) s.size ((cutL a b c d).deep + 2) n st]) ++ (scrS (cutL a b c d) s.size ((cutL a b c d).deep + 2) g (n + 1) (dclS (cutL a b c d) s.size ((cutL a b c d).deep + 2) n st)).1 ∧ (dn ++ [decD (cutL a b c d) s.size ((cutL a b c d).deep + 2) n st]).length = n + 1 ∧ ((dclS (cutL a b c d) s.size ((cutL a b c d).deep + 2) n st).E = 0 → (xs ++ [y]).map DS.d = dn ++ [decD (cutL a b c d) s.size ((cutL a b c d).deep + 2) n st]) ∧ ((dclS (cutL a b c d) s.size ((cutL a b c d).deep + 2) n st).E = 0 → (dclS (cutL a b c d) s.size ((cutL a b c d).deep + 2) n st).mad ≤ (cutL a b c d).nodes ∧ (dclS (cutL a b c d) s.size ((cutL a b c d).deep + 2) n st).op = 0) ∧ n + 1 + (dclS (cutL a b c d) s.size ((cutL a b c d).deep + 2) n st).l.length ≤ 4000) := by
    refine ⟨by omega, ?_, ?_, ?_, fun e => ?_, fun e => ?_, by omega⟩
    · rw [← i2b]
    · rw [i3, ← i2a, List.append_assoc]; rfl
    · rw [List.length_append, i4]; rfl
    · rw [List.map_append, i5 hE0.out, List.map_cons, List.map_nil, Hy.out e]
    · unfold Ki at hki
      cases e2 : declT (cutL a b c d) s.size n st.l st.mad with
      | ok d l m => rw [e2] at hki; exact ⟨by rw [hki.2.2.1]; exact hki.2.2.2.2.1, hki.2.2.2.1⟩
      | bad p r => rw [e2] at hki; exact absurd (hki.E.symm.trans e) hki.ne
   have HME : Hid (tlen q w6 < tlen q wY) := by show _ < _; rw [tlen_is H6.out, tlen_is H3.out]; exact hdl
   clear hO6 hg6 HOo HOd HD5 HT5 HZ5 H5 HB5 hb5 HLx HEx Hy hdl i1 i2a i2b i3 i4 i5 i6 i7 hsc hki HI0 hncap hn0
   go_wp2
   go_roundw
   case rel => exact ⟨n + 1, c6, A6, _, _, g, B4, _, _, rfl, HO6, HD6, H6, hb6, HB6, HZ6, HI6⟩
   case measure => exact HME.out
end Go.Proofs.YtheaepceghnkpaaDoor

/- What a row's listed variables give: package parse's table of words, strconv's sentinels. Condition: the variables read as listed. -/
namespace Go.Proofs.YtheaepceghnkpaaDoor
open Go.RowKit Go.ChangeShapes Limb
set_option linter.unusedVariables false
def wordsL : List (List UInt8) := [[], [117, 110, 105, 116], [115, 111, 117, 114, 99, 101], [99, 111, 118], [108, 101, 116], [111, 117, 116, 112, 117, 116]]
set_option maxRecDepth 100000 in
theorem words_tab {W : World} {name : String} {r : List (String × DataW Unit)} (h : laidMet Tryd.prog ((name, .agg (wordsL.map fun l => .lit (.string l))) :: r) W) (hg : Tryd.prog.globalNamed name = some 0) : WTab W := fun i hi => by
 obtain ⟨ps, ⟨g0, t0, cs0, f0, p0, q0, hg0, ht0, hv0, hd0, _, _⟩, _, _⟩ := h
 obtain rfl := Option.some.inj (hg.symm.trans hg0)
 have ht : (Tryd.prog.globals[0]?).map (·.type) = some 77 := by kernel_rfl
 obtain rfl := Option.some.inj (ht.symm.trans ht0)
 obtain ⟨f1, d, q, hd, hel⟩ := Lib.array_elem Tryd.underlying77 hd0 i hi
 have hc : Tryd.prog.cellsOf 9 = 1 := by kernel_rfl
 rw [hc, Nat.mul_one] at hel
 obtain ⟨s, hs1, hs2, _⟩ := DataW.trod_string Tryd.underlying9 hel
 have h2 := World.var?_cell hg0 hv0 i
 rw [← Array.getElem?_toList] at h2
 have h3 : cs0.toList[i]? = some (.string s) := by
  have h4 := congrArg (fun l : List Value => l[0]?) hs1
  simp only [List.getElem?_take, List.getElem?_drop, Nat.add_zero] at h4
  simpa using h4
 rw [h2, h3]
 have h5 : d = .lit (.string s.data.toList) := congrArg Prod.fst hs2
 subst h5
 have h6 : s.data.toList = wordsL.getD i [] := by
  generalize wordsL = L at hd ⊢
  rw [List.getElem?_map] at hd
  cases hu : L[i]? with
  | none => rw [hu] at hd; cases hd
  | some l =>
   rw [hu] at hd
   have hd2 : some (DataW.lit (.string l) : DataW Unit) = some (.lit (.string s.data.toList)) := hd
   injection hd2 with hd2
   injection hd2 with hd2
   injection hd2 with hd2
   rw [List.getD_eq_getElem?_getD, hu]; exact hd2.symm
 have h7 : s = strOf (wordB i) := by
  have h8 : ∀ i, i < 6 → wordsL.getD i [] = (wordB i).map UInt8.ofNat := by decide
  rw [h8 i hi] at h6
  obtain ⟨⟨l⟩⟩ := s
  show ByteArray.mk ⟨l⟩ = ⟨((wordB i).map UInt8.ofNat).toArray⟩
  have h9 : l = (wordB i).map UInt8.ofNat := h6
  rw [h9]
 rw [h7]
theorem errs_tab {W : World} {name nm : String} {d : DataW Unit} {r : List (String × DataW Unit)} (h : laidMet Tryd.prog ((name, .iface nm d) :: r) W) (hg : Tryd.prog.globalNamed name = some 2) :
 ∃ te pe, W.cell? ⟨2, 0, none⟩ = some (.iface te pe) := by
 obtain ⟨ps, ⟨g0, t0, cs0, f0, p0, q0, hg0, ht0, hv0, hd0, _, _⟩, _, _⟩ := h
 obtain rfl := Option.some.inj (hg.symm.trans hg0)
 have ht : (Tryd.prog.globals[2]?).map (·.type) = some 85 := by kernel_rfl
 obtain rfl := Option.some.inj (ht.symm.trans ht0)
 obtain ⟨_, u, v, hcs, _⟩ := iface_of_trod Tryd.underlying85 hd0
 have h2 := World.var?_cell hg0 hv0 0
 rw [← Array.getElem?_toList, hcs] at h2
 exact ⟨u, v, by simpa using h2⟩
theorem errr_tab {W : World} {name nm : String} {d : DataW Unit} {r : List (String × DataW Unit)} (h : laidMet Tryd.prog ((name, .iface nm d) :: r) W) (hg : Tryd.prog.globalNamed name = some 3) :
 ∃ te pe, W.cell? ⟨3, 0, none⟩ = some (.iface te pe) := by
 obtain ⟨ps, ⟨g0, t0, cs0, f0, p0, q0, hg0, ht0, hv0, hd0, _, _⟩, _, _⟩ := h
 obtain rfl := Option.some.inj (hg.symm.trans hg0)
 have ht : (Tryd.prog.globals[3]?).map (·.type) = some 85 := by kernel_rfl
 obtain rfl := Option.some.inj (ht.symm.trans ht0)
 obtain ⟨_, u, v, hcs, _⟩ := iface_of_trod Tryd.underlying85 hd0
 have h2 := World.var?_cell hg0 hv0 0
 rw [← Array.getElem?_toList, hcs] at h2
 exact ⟨u, v, by simpa using h2⟩
end Go.Proofs.YtheaepceghnkpaaDoor

/- What the statements' helper wakes of layer 15 answers, as a contract over memory. Condition: the tables of kinds read as they are laid. -/
namespace Go.Proofs.YtheaepceghnkpaaDoor
open Go.RowKit Limb
set_option linter.unusedVariables false
theorem DcR.elems {w : World} {A : Option Addr} {n c : Nat} {ds : List Dc} (h : DcR w A n c ds) (h0 : 0 < n) : ∃ g o, A = some ⟨g, o, none⟩ ∧ g < w.heap.size ∧ ∀ i d, ds[i]? = some d → ∃ B m k, InV w g (o + i * 9) (dcV ⟨d, B, m, k⟩) ∧ TreR w B m k d.tr := by
 obtain ⟨xs, h1, h2, h3, h4, h5, h6⟩ := h
 obtain ⟨g, o, e, hg, hc⟩ := h6 h0
 refine ⟨g, o, e, hg, fun i d hi => ?_⟩
 subst h1
 rw [List.getElem?_map] at hi
 obtain ⟨x, hx, rfl⟩ := Option.map_eq_some_iff.1 hi
 exact ⟨x.A, x.n, x.c, hc i x hx, h5 x (List.mem_of_getElem? hx)⟩
theorem DcR.caps {w : World} {A : Option Addr} {n c : Nat} {ds : List Dc} (h : DcR w A n c ds) : n ≤ c ∧ c ≤ maxLen := by
 obtain ⟨xs, h1, h2, h3, h4, h5, h6⟩ := h
 exact ⟨h3, h4⟩
def wDa : Dc := ⟨2, [120], [], [51, 47, 52], [48, 46, 48, 49], [109], [], 0, 7⟩
def wDb : Dc := ⟨4, [97], [], [], [], [], [⟨2, 0, 0, 0, ⟨#[120]⟩, ⟨#[]⟩, 37⟩, ⟨8, 0, 0, 2, ⟨#[]⟩, ⟨#[]⟩, 38⟩, ⟨7, 1, 0, 0, ⟨#[]⟩, ⟨#[]⟩, 36⟩], 0, 32⟩
def wDc : Dc := ⟨5, [121], [], [], [], [109, 94, 51], [⟨2, 0, 0, 0, ⟨#[97]⟩, ⟨#[]⟩, 54⟩, ⟨2, 0, 0, 0, ⟨#[120]⟩, ⟨#[]⟩, 57⟩, ⟨1, 0, 0, 0, ⟨#[50]⟩, ⟨#[109]⟩, 61⟩, ⟨4, 1, 2, 0, ⟨#[]⟩, ⟨#[]⟩, 59⟩, ⟨5, 0, 3, 0, ⟨#[]⟩, ⟨#[]⟩, 55⟩], 3, 50⟩
def wTt : List Nd := [⟨2, 0, 0, 0, ⟨#[97]⟩, ⟨#[]⟩, 0⟩, ⟨2, 0, 0, 0, ⟨#[98]⟩, ⟨#[]⟩, 2⟩, ⟨4, 0, 1, 0, ⟨#[]⟩, ⟨#[]⟩, 1⟩, ⟨2, 0, 0, 0, ⟨#[99]⟩, ⟨#[]⟩, 4⟩, ⟨4, 2, 3, 0, ⟨#[]⟩, ⟨#[]⟩, 3⟩]
theorem wk1 : scrV (cutL 4000 60 2000 64) (bytesOf ⟨#[115, 111, 117, 114, 99, 101, 32, 120, 32, 61, 32, 51, 47, 52, 32, 91, 109, 93, 32, 58, 32, 48, 46, 48, 49, 32, 59, 10, 108, 101, 116, 32, 97, 32, 61, 32, 45, 120, 94, 50, 32, 59, 32, 111, 117, 116, 112, 117, 116, 32, 121, 32, 61, 32, 97, 42, 40, 120, 32, 45, 32, 50, 32, 91, 109, 93, 41, 32, 105, 110, 32, 91, 109, 94, 51, 93, 32, 58, 32, 51, 32, 59]⟩) = ([wDa, wDb, wDc], 0, 0) := by kernel_rfl
theorem wk2 : scrV (cutL 4000 60 2000 64) (bytesOf ⟨#[108, 101, 116, 32, 97, 32, 61, 32, 49, 32, 43]⟩) = ([], 12, 11) := by kernel_rfl
theorem wk3 : frmV (cutL 9 1 9 0) (bytesOf ⟨#[40, 40, 120, 41, 41]⟩) = ([], 2, 1) := by kernel_rfl
theorem wk4 : frmV (cutL 9 1 9 2) (bytesOf ⟨#[120, 94, 51]⟩) = ([], 2, 2) := by kernel_rfl
theorem wk5 : frmV (cutL 4000 60 2000 64) (bytesOf ⟨#[97, 45, 98, 45, 99]⟩) = (wTt, 0, 0) := by kernel_rfl
set_option maxHeartbeats 8000000 in
set_option maxRecDepth 100000 in
theorem wakes_any (w : World) (HT0 : Hid (PTab w)) : Calls Tryd.prog 5 #[] w fun e w' => e = .returned (.bool true) ∧ Below w.heap.size w w' := by
 have bw := bel_refl w
 go_enter Tryd.func5, Tryd.ntmps5
 go_wp2_with fail
 refine (pMost_c w).mono ?_
 rintro e w1 ⟨rfl, bn⟩
 replace bw := below_two bw bn
 clear bn
 go_wp2_with fail
 refine (pScript_c ⟨#[115, 111, 117, 114, 99, 101, 32, 120, 32, 61, 32, 51, 47, 52, 32, 91, 109, 93, 32, 58, 32, 48, 46, 48, 49, 32, 59, 10, 108, 101, 116, 32, 97, 32, 61, 32, 45, 120, 94, 50, 32, 59, 32, 111, 117, 116, 112, 117, 116, 32, 121, 32, 61, 32, 97, 42, 40, 120, 32, 45, 32, 50, 32, 91, 109, 93, 41, 32, 105, 110, 32, 91, 109, 94, 51, 93, 32, 58, 32, 51, 32, 59]⟩ (by decide) (4000) (60) (2000) (64) w1 (HT0.out.below bw) ([wDa, wDb, wDc]) (0) (0) wk1).mono ?_
 rintro e w2 ⟨A_l, n_l, c_l, rfl, h_dl, bn⟩
 replace bw := below_two bw bn
 clear bn
 obtain rfl : n_l = 3 := h_dl.len
 have HU_f := Lib.hid (fitsF (0) (0))
 have h_rf := rowA_new w2 28 (fltC (0) (0))
 have bn := below_new w2 (.cells (fltC (0) (0)) 28)
 replace h_dl := h_dl.below bn
 replace bw := below_two bw bn
 clear bn
 go_wp2_with (refine wpList_storeNew (by rfl) _ _ _ (by rfl) _ _ _ (by rfl) (by rfl) (by assumption) ?_)
 generalize w2.alloc (.cells (fltC (0) (0)) 28) = w3 at *
 obtain ⟨q_f, eg⟩ : ∃ g, g = w2.heap.size := ⟨_, rfl⟩
 rw [← eg] at h_rf ⊢
 clear eg
 refine (pMost_c w3).mono ?_
 rintro e w4 ⟨rfl, bn⟩
 replace h_dl := h_dl.below bn
 replace h_rf := h_rf.below bn
 replace bw := below_two bw bn
 clear bn
 go_wp2_with fail
 refine (pScript_c ⟨#[108, 101, 116, 32, 97, 32, 61, 32, 49, 32, 43]⟩ (by decide) (4000) (60) (2000) (64) w4 (HT0.out.below bw) ([]) (12) (11) wk2).mono ?_
 rintro e w5 ⟨A_b, n_b, c_b, rfl, h_db, bn⟩
 replace h_dl := h_dl.below bn
 replace h_rf := h_rf.below bn
 replace bw := below_two bw bn
 clear bn
 obtain rfl : n_b = 0 := h_db.len
 have HU_g := Lib.hid (fitsF (12) (11))
 have h_rg := rowA_new w5 28 (fltC (12) (11))
 have bn := below_new w5 (.cells (fltC (12) (11)) 28)
 replace h_dl := h_dl.below bn
 replace h_rf := h_rf.below bn
 replace h_db := h_db.below bn
 replace bw := below_two bw bn
 clear bn
 go_wp2_with (refine wpList_storeNew (by rfl) _ _ _ (by rfl) _ _ _ (by rfl) (by rfl) (by assumption) ?_)
 generalize w5.alloc (.cells (fltC (12) (11)) 28) = w6 at *
 obtain ⟨q_g, eg⟩ : ∃ g, g = w5.heap.size := ⟨_, rfl⟩
 rw [← eg] at h_rg ⊢
 clear eg
 refine (pFormula_c ⟨#[40, 40, 120, 41, 41]⟩ (by decide) (9) (1) (9) (0) w6 (HT0.out.below bw) ([]) (2) (1) wk3).mono ?_
 rintro e w7 ⟨A_c, n_c, c_c, rfl, h_tc, bn⟩
 replace h_dl := h_dl.below bn
 replace h_rf := h_rf.below bn
 replace h_db := h_db.below bn
 replace h_rg := h_rg.below bn
 replace bw := below_two bw bn
 clear bn
 obtain rfl : n_c = 0 := h_tc.1
 have HU_h := Lib.hid (fitsF (2) (1))
 have h_rh := rowA_new w7 28 (fltC (2) (1))
 have bn := below_new w7 (.cells (fltC (2) (1)) 28)
 replace h_dl := h_dl.below bn
 replace h_rf := h_rf.below bn
 replace h_db := h_db.below bn
 replace h_rg := h_rg.below bn
 replace h_tc := h_tc.below bn
 replace bw := below_two bw bn
 clear bn
 go_wp2_with (refine wpList_storeNew (by rfl) _ _ _ (by rfl) _ _ _ (by rfl) (by rfl) (by assumption) ?_)
 generalize w7.alloc (.cells (fltC (2) (1)) 28) = w8 at *
 obtain ⟨q_h, eg⟩ : ∃ g, g = w7.heap.size := ⟨_, rfl⟩
 rw [← eg] at h_rh ⊢
 clear eg
 refine (pFormula_c ⟨#[120, 94, 51]⟩ (by decide) (9) (1) (9) (2) w8 (HT0.out.below bw) ([]) (2) (2) wk4).mono ?_
 rintro e w9 ⟨A_d, n_d, c_d, rfl, h_td, bn⟩
 replace h_dl := h_dl.below bn
 replace h_rf := h_rf.below bn
 replace h_db := h_db.below bn
 replace h_rg := h_rg.below bn
 replace h_tc := h_tc.below bn
 replace h_rh := h_rh.below bn
 replace bw := below_two bw bn
 clear bn
 obtain rfl : n_d = 0 := h_td.1
 have HU_i := Lib.hid (fitsF (2) (2))
 have h_ri := rowA_new w9 28 (fltC (2) (2))
 have bn := below_new w9 (.cells (fltC (2) (2)) 28)
 replace h_dl := h_dl.below bn
 replace h_rf := h_rf.below bn
 replace h_db := h_db.below bn
 replace h_rg := h_rg.below bn
 replace h_tc := h_tc.below bn
 replace h_rh := h_rh.below bn
 replace h_td := h_td.below bn
 replace bw := below_two bw bn
 clear bn
 go_wp2_with (refine wpList_storeNew (by rfl) _ _ _ (by rfl) _ _ _ (by rfl) (by rfl) (by assumption) ?_)
 generalize w9.alloc (.cells (fltC (2) (2)) 28) = w10 at *
 obtain ⟨q_i, eg⟩ : ∃ g, g = w9.heap.size := ⟨_, rfl⟩
 rw [← eg] at h_ri ⊢
 clear eg
 refine (pMost_c w10).mono ?_
 rintro e w11 ⟨rfl, bn⟩
 replace h_dl := h_dl.below bn
 replace h_rf := h_rf.below bn
 replace h_db := h_db.below bn
 replace h_rg := h_rg.below bn
 replace h_tc := h_tc.below bn
 replace h_rh := h_rh.below bn
 replace h_td := h_td.below bn
 replace h_ri := h_ri.below bn
 replace bw := below_two bw bn
 clear bn
 go_wp2_with fail
 refine (pFormula_c ⟨#[97, 45, 98, 45, 99]⟩ (by decide) (4000) (60) (2000) (64) w11 (HT0.out.below bw) (wTt) (0) (0) wk5).mono ?_
 rintro e w12 ⟨A_t, n_t, c_t, rfl, h_tt, bn⟩
 replace h_dl := h_dl.below bn
 replace h_rf := h_rf.below bn
 replace h_db := h_db.below bn
 replace h_rg := h_rg.below bn
 replace h_tc := h_tc.below bn
 replace h_rh := h_rh.below bn
 replace h_td := h_td.below bn
 replace h_ri := h_ri.below bn
 replace bw := below_two bw bn
 clear bn
 obtain rfl : n_t = 5 := h_tt.1
 have HU_j := Lib.hid (fitsF (0) (0))
 have h_rj := rowA_new w12 28 (fltC (0) (0))
 have bn := below_new w12 (.cells (fltC (0) (0)) 28)
 replace h_dl := h_dl.below bn
 replace h_rf := h_rf.below bn
 replace h_db := h_db.below bn
 replace h_rg := h_rg.below bn
 replace h_tc := h_tc.below bn
 replace h_rh := h_rh.below bn
 replace h_td := h_td.below bn
 replace h_ri := h_ri.below bn
 replace h_tt := h_tt.below bn
 replace bw := below_two bw bn
 clear bn
 obtain ⟨hnl, hcl⟩ := h_dl.caps
 obtain ⟨gl, ol, ea, hgl, hel⟩ := h_dl.elems (by decide)
 subst ea
 obtain ⟨B0, m0, k0, i0, _⟩ := hel 0 wDa rfl
 obtain ⟨B1, m1, k1, i1, ht1⟩ := hel 1 wDb rfl
 obtain ⟨B2, m2, k2, i2, _⟩ := hel 2 wDc rfl
 obtain rfl : m1 = 3 := ht1.1
 have hk1 := ht1.2.1
 have hk2 := ht1.2.2.1
 obtain ⟨g1, o1, eb, _, hin1⟩ := ht1.2.2.2 (by decide)
 subst eb
 have hct := h_tt.2.1
 have hct2 := h_tt.2.2.1
 obtain ⟨gt, ot, ec, _, hint⟩ := h_tt.2.2.2 (by decide)
 subst ec
 have eq1 : maxLen = 9223372036854775807 := rfl
 have q0 := i0 3 (.string ⟨#[51, 47, 52]⟩) rfl
 have q1 := i0 4 (.string ⟨#[48, 46, 48, 49]⟩) rfl
 have q2 := i0 5 (.string ⟨#[109]⟩) rfl
 have q3 := i0 8 (.int .i64 7) rfl
 have q4 := i1 6 (.slice (some ⟨g1, o1, none⟩) 3 k1) rfl
 have q5 := i2 7 (.int .i64 3) rfl
 have q6 := i2 5 (.string ⟨#[109, 94, 51]⟩) rfl
 have q10 := hin1 2 ⟨7, 1, 0, 0, ⟨#[]⟩, ⟨#[]⟩, 36⟩ rfl 0 (.int .i64 7) rfl
 have q11 := hin1 1 ⟨8, 0, 0, 2, ⟨#[]⟩, ⟨#[]⟩, 38⟩ rfl 0 (.int .i64 8) rfl
 have q12 := hint 2 ⟨4, 0, 1, 0, ⟨#[]⟩, ⟨#[]⟩, 1⟩ rfl 0 (.int .i64 4) rfl
 have q13 := hint 2 ⟨4, 0, 1, 0, ⟨#[]⟩, ⟨#[]⟩, 1⟩ rfl 6 (.int .i64 1) rfl
 have q14 := hint 4 ⟨4, 2, 3, 0, ⟨#[]⟩, ⟨#[]⟩, 3⟩ rfl 1 (.int .i64 2) rfl
 clear hel i0 i1 i2 ht1 hin1 hint
 have k0_f := h_rf.cell (k := 0) (v := .int .i64 (0)) rfl
 have hf1 := fun W => equal_flt (e := 12) (a := 11) (e' := 12) (a' := 11) (b := true) (by decide) W
 have hf2 := fun W => equal_flt (e := 2) (a := 1) (e' := 2) (a' := 1) (b := true) (by decide) W
 have hf3 := fun W => equal_flt (e := 2) (a := 2) (e' := 2) (a' := 2) (b := true) (by decide) W
 have HM_g := Lib.hid (manyF 12 11)
 have HM_h := Lib.hid (manyF 2 1)
 have HM_i := Lib.hid (manyF 2 2)
 have k0_j := h_rj.cell (k := 0) (v := .int .i64 (0)) rfl
 have HI_g := Lib.hid h_rg.inV
 have HI_h := Lib.hid h_rh.inV
 have HI_i := Lib.hid h_ri.inV
 go_wp2_with (first | (refine wpList_loadV (by rfl) _ _ (by rfl) _ _ (by rfl) _ (by assumption) (by assumption) ?_) | (refine wpList_storeNew (by rfl) _ _ _ (by rfl) _ _ _ (by rfl) (by rfl) (by assumption) ?_))
 clear HI_g HI_h HI_i hnl hcl hk1 hk2 hct hct2 eq1 q0 q1 q2 q3 q4 q5 q6 q10 q11 q12 q13 q14 k0_f hf1 hf2 hf3 k0_j
 generalize w12.alloc (.cells (fltC (0) (0)) 28) = w13 at *
 obtain ⟨q_j, eg⟩ : ∃ g, g = w12.heap.size := ⟨_, rfl⟩
 rw [← eg] at h_rj ⊢
 clear eg
 go_ret
 exact ⟨rfl, bw⟩
end Go.Proofs.YtheaepceghnkpaaDoor
