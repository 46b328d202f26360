/- For every two trees and number that come in, TreeSizes answers true and leaves its arguments as they were. Conditions: the row's own (the tables of kinds read as the program lays them; what is handed in reads in the caller's memory). -/
import Derived.Test.YtbddhflmknaadaaDoorM5
import Derived.Test.YtbddhflmknaadaaDoorCards
import Derived.Test.YtbddhflmknaadaaDoorTie
import Derived.ChangeMaps5
import Derived.Lay
import Derived.SevenTiedAt
/- What trees that are put together tell: which may be, how deep they are. No condition. -/
namespace Go.Proofs.YtbddhflmknaadaaDoor
open Go.RowKit Limb
set_option linter.unusedVariables false
theorem map_shift0 (ts : List Nd) : ts.map (shiftN 0) = ts := by
 induction ts with
 | nil => rfl
 | cons x r ih => rw [List.map_cons, shiftN_zero, ih]
theorem packL_one (ts : List Nd) : packL [ts] = ts := by
 show [] ++ ts.map (shiftN 0) = ts
 rw [List.nil_append, map_shift0]
theorem packL_two (ts us : List Nd) : packL [ts, us] = ts ++ us.map (shiftN ts.length) := by
 show ([] ++ ts.map (shiftN 0)) ++ us.map (shiftN ([] ++ ts.map (shiftN 0)).length) = _
 rw [List.nil_append, map_shift0]
theorem getD_one {o : List Nat} {j : Nat} (h : j < o.length) (a b : Nat) : o.getD j a = o.getD j b := by
 rw [List.getD_eq_getElem?_getD, List.getD_eq_getElem?_getD, List.getElem?_eq_getElem h]; rfl
theorem good_over {ts : List Nd} {x : Nd} (hg : goodT ts = true) (hl : ts.length + 1 ≤ 2000) (hf : fitsN x = true) (hk : oneK x.k = true) (ha : x.a = ((ts.length - 1 : Nat) : Int)) : goodT (ts ++ [x]) = true ∧ deepI (ts ++ [x]) = 1 + deepI ts := by
 obtain ⟨h1, h2, o, hb, hol, hlow, h0⟩ := good_all hg
 have h00 : o.getD (ts.length - 1) 0 = 0 := by rw [getD_one (by omega) 0 1]; exact h0
 have hs := stepB_one hf hk ha (by omega : o.length = ts.length - 1 + 1)
 rw [h00] at hs
 have hb2 : begT (ts ++ [x]) = some (o ++ [0]) := by
  unfold begT at hb ⊢
  rw [begF_append, hb, begF_step hs]; rfl
 have hlen : (ts ++ [x]).length = ts.length + 1 := by rw [List.length_append]; rfl
 have hg2 : goodT (ts ++ [x]) = true := by
  rw [goodT_of hb2 (by omega) (by omega), hlen, Nat.add_sub_cancel, ← hol, getD_snoc_eq]; rfl
 refine ⟨hg2, ?_⟩
 unfold deepI
 rw [if_pos hg2, if_pos hg, depT_snoc, hlen, Nat.add_sub_cancel]
 have h3 := getD_snoc_eq (depT ts) (depS (depT ts) x) 0
 rw [depT_len] at h3
 rw [h3]
 unfold depS
 rw [if_neg (by rw [one_not_two hk]; decide), if_pos hk, ha]
 rfl
theorem getD_two {o q : List Nat} {n j : Nat} (hn : o.length = n) (d : Nat) : (o ++ q).getD (n + j) d = q.getD j d := by subst hn; exact getD_app_ge j
theorem good_two {ts us : List Nd} {x : Nd} (hg : goodT ts = true) (hg' : goodT us = true) (hl : ts.length + us.length + 1 ≤ 2000) (hf : fitsN x = true) (hk : twoK x.k = true) (ha : x.a = ((ts.length - 1 : Nat) : Int)) (hb0 : x.b = ((ts.length + us.length - 1 : Nat) : Int)) :
 goodT (ts ++ us.map (shiftN ts.length) ++ [x]) = true ∧ deepI (ts ++ us.map (shiftN ts.length) ++ [x]) = 1 + max (deepI ts) (deepI us) ∧ goodT (ts ++ us.map (shiftN ts.length)) = false := by
 obtain ⟨h1, h2, o, hb, hol, hlow, h0⟩ := good_all hg
 obtain ⟨h1', h2', q, hb', hol', hlow', h0'⟩ := good_all hg'
 have h00 : o.getD (ts.length - 1) 0 = 0 := by rw [getD_one (by omega) 0 1]; exact h0
 have h00' : q.getD (us.length - 1) 0 = 0 := by rw [getD_one (by omega) 0 1]; exact h0'
 have hj := begT_join hb hb'
 have hjl : (o ++ q.map (· + ts.length)).length = ts.length + us.length := by rw [List.length_append, List.length_map, hol, hol']
 have hlen0 : (ts ++ us.map (shiftN ts.length)).length = ts.length + us.length := by rw [List.length_append, List.length_map]
 have hlast : (o ++ q.map (· + ts.length)).getD (ts.length + us.length - 1) 0 = ts.length := by
  rw [show ts.length + us.length - 1 = ts.length + (us.length - 1) by omega, getD_two hol, getD_map_add (by omega), h00', Nat.zero_add]
 have hs := stepB_two (o := o ++ q.map (· + ts.length)) hf hk hb0 (by omega) ha (by rw [hlast]; omega)
 have hfst : (o ++ q.map (· + ts.length)).getD (ts.length - 1) 0 = 0 := by
  rw [List.getD_eq_getElem?_getD, List.getElem?_append_left (by omega), ← List.getD_eq_getElem?_getD, h00]
 rw [hfst] at hs
 have hb2 : begT (ts ++ us.map (shiftN ts.length) ++ [x]) = some (o ++ q.map (· + ts.length) ++ [0]) := by
  unfold begT at hj ⊢
  rw [begF_append, hj, begF_step hs]; rfl
 have hlen : (ts ++ us.map (shiftN ts.length) ++ [x]).length = ts.length + us.length + 1 := by rw [List.length_append, hlen0]; rfl
 have hg2 : goodT (ts ++ us.map (shiftN ts.length) ++ [x]) = true := by
  rw [goodT_of hb2 (by omega) (by omega), hlen, Nat.add_sub_cancel, ← hjl, getD_snoc_eq]; rfl
 refine ⟨hg2, ?_, ?_⟩
 · unfold deepI
   rw [if_pos hg2, if_pos hg, if_pos hg', depT_snoc, hlen, Nat.add_sub_cancel]
   have h3 := getD_snoc_eq (depT (ts ++ us.map (shiftN ts.length))) (depS (depT (ts ++ us.map (shiftN ts.length))) x) 0
   rw [depT_len, hlen0] at h3
   rw [h3]
   unfold depS
   rw [if_pos hk, ha, hb0, depT_join hb', Int.toNat_natCast, Int.toNat_natCast]
   have e1 : (depT ts ++ depT us).getD (ts.length - 1) 0 = (depT ts).getD (ts.length - 1) 0 := by
    rw [List.getD_eq_getElem?_getD, List.getElem?_append_left (by rw [depT_len]; omega), ← List.getD_eq_getElem?_getD]
   have e2 : (depT ts ++ depT us).getD (ts.length + us.length - 1) 0 = (depT us).getD (us.length - 1) 0 := by
    rw [show ts.length + us.length - 1 = ts.length + (us.length - 1) by omega, getD_two (depT_len ts)]
   rw [e1, e2]
 · rw [goodT_of hj (by omega) (by omega), hlen0, decide_eq_false]
   rw [getD_one (by omega) 1 0, hlast]
   omega
theorem deep_le {ts : List Nd} (hg : goodT ts = true) : 1 ≤ deepI ts ∧ deepI ts ≤ ts.length := by
 obtain ⟨h1, h2, o, hb, _, _, _⟩ := good_all hg
 have h9 := depT_dep hb (ts.length - 1) (by rw [depT_len]; omega)
 unfold deepI
 rw [if_pos hg]
 omega
theorem pack_over {ts : List Nd} {x : Nd} (hf : fitsN x = true) (hg : goodT ts = true) (hl : ts.length + 1 ≤ 2000) : packR x [ts] = some (ts ++ [x]) := by
 unfold packR
 rw [if_pos ⟨hf, all_one.2 hg, by simp [sumL]; omega⟩, packL_one]
theorem pack_two {ts us : List Nd} {x : Nd} (hf : fitsN x = true) (hg : goodT ts = true) (hg' : goodT us = true) (hl : ts.length + us.length + 1 ≤ 2000) : packR x [ts, us] = some (ts ++ us.map (shiftN ts.length) ++ [x]) := by
 unfold packR
 rw [if_pos ⟨hf, all_two.2 ⟨hg, hg'⟩, by simp [sumL]; omega⟩, packL_two]
end Go.Proofs.YtbddhflmknaadaaDoor

/- For every two trees and number that come in, TreeSizes answers true and leaves its arguments as they were. Conditions: the row's own (the tables of kinds read as the program lays them; what is handed in reads in the caller's memory). -/
namespace Go.Proofs.YtbddhflmknaadaaDoor.lawTreeSizes
open Go.ChangeShapes Go.WideShapes Go.ChangeAt Go.RowKit Limb
set_option linter.unusedVariables false
theorem shiftT (d : Nat) (x : Nd) : (shiftN d x).t = x.t := by
 unfold shiftN
 split
 · rfl
 · split <;> rfl
theorem shiftU (d : Nat) (x : Nd) : (shiftN d x).u = x.u := by
 unfold shiftN
 split
 · rfl
 · split <;> rfl
theorem sizes_c {ts us : List Nd} {n m : Nat} (hn : n = ts.length) (hm : m = us.length) (hg : goodT ts = true) (hg' : goodT us = true) (hl : n + m ≤ 1000) (M : Mild ts) (M' : Mild us) :
 ∃ Tc, packR ⟨4, (n : Int) - 1, (n : Int) + (m : Int) - 1, 0, ⟨#[]⟩, ⟨#[]⟩, 0⟩ [ts, us] = some Tc ∧ Tc.length = n + m + 1 ∧ Mild Tc ∧ goodT Tc = true ∧ deepI Tc = 1 + max (deepI ts) (deepI us) ∧ Tc.take n = ts ∧ goodT (Tc.take (n + m)) = false ∧ Mild (Tc.take (n + m)) := by
 subst hn hm
 have h1 := (good_all hg).1
 have h1' := (good_all hg').1
 have hx : fitsN ⟨4, (ts.length : Int) - 1, (ts.length : Int) + (us.length : Int) - 1, 0, ⟨#[]⟩, ⟨#[]⟩, 0⟩ = true := rfl
 obtain ⟨g1, g2, g3⟩ := good_two (ts := ts) (us := us) (x := ⟨4, (ts.length : Int) - 1, (ts.length : Int) + (us.length : Int) - 1, 0, ⟨#[]⟩, ⟨#[]⟩, 0⟩) hg hg' (by omega) hx (show twoK 4 = true from by decide) (by show _ - _ = _; omega) (by show _ - _ = _; omega)
 have hlen0 : (ts ++ us.map (shiftN ts.length)).length = ts.length + us.length := by rw [List.length_append, List.length_map]
 have hM : Mild (ts ++ us.map (shiftN ts.length) ++ [⟨4, (ts.length : Int) - 1, (ts.length : Int) + (us.length : Int) - 1, 0, ⟨#[]⟩, ⟨#[]⟩, 0⟩]) := by
  refine ⟨by rw [List.length_append, hlen0]; show _ + 1 ≤ _; omega, fun y hy => ?_⟩
  rcases List.mem_append.1 hy with h | h
  · rcases List.mem_append.1 h with h | h
    · exact M.2 y h
    · obtain ⟨z, hz, rfl⟩ := List.mem_map.1 h
      have h9 := M'.2 z hz
      rw [shiftT, shiftU]
      exact h9
  · rw [List.mem_singleton.1 h]; exact ⟨Nat.zero_le _, Nat.zero_le _⟩
 refine ⟨_, pack_two hx hg hg' (by omega), by rw [List.length_append, hlen0]; rfl, hM, g1, g2, ?_, ?_, ?_⟩
 · rw [List.append_assoc, List.take_left]
 · rw [show ts.length + us.length = (ts ++ us.map (shiftN ts.length)).length from hlen0.symm, List.take_left]; exact g3
 · exact ⟨by rw [List.length_take]; omega, fun y hy => hM.2 y (List.mem_of_mem_take hy)⟩
theorem sizes_d {ts : List Nd} {n : Nat} (k j : Int) (hn : n = ts.length) (hg : goodT ts = true) (hl : n ≤ 1000) (M : Mild ts) (hf : ∀ a, fitsN ⟨k, a, 0, j, ⟨#[]⟩, ⟨#[]⟩, 0⟩ = true) (hk : oneK k = true) :
 ∃ Tc, packR ⟨k, (n : Int) - 1, 0, j, ⟨#[]⟩, ⟨#[]⟩, 0⟩ [ts] = some Tc ∧ Tc.length = n + 1 ∧ Mild Tc ∧ goodT Tc = true ∧ deepI Tc = 1 + deepI ts ∧ Tc.take n = ts := by
 subst hn
 have h1 := (good_all hg).1
 obtain ⟨g1, g2⟩ := good_over (ts := ts) (x := ⟨k, (ts.length : Int) - 1, 0, j, ⟨#[]⟩, ⟨#[]⟩, 0⟩) hg (by omega) (hf _) hk (by show _ - _ = _; omega)
 refine ⟨_, pack_over (hf _) hg (by omega), by rw [List.length_append]; rfl, ⟨by rw [List.length_append]; show _ + 1 ≤ _; omega, fun y hy => ?_⟩, g1, g2, List.take_left⟩
 rcases List.mem_append.1 hy with h | h
 · exact M.2 y h
 · rw [List.mem_singleton.1 h]; exact ⟨Nat.zero_le _, Nat.zero_le _⟩
theorem pow_fits {j : Int} (h0 : -64 ≤ j) (h1 : j ≤ 64) (a : Int) : fitsN ⟨8, a, 0, j, ⟨#[]⟩, ⟨#[]⟩, 0⟩ = true := by
 unfold fitsN
 simp [twoK, h0, h1]
 rfl
theorem neg_fits (a : Int) : fitsN ⟨7, a, 0, 0, ⟨#[]⟩, ⟨#[]⟩, 0⟩ = true := rfl
theorem wf_i8t {n : Int} (h : (Lit.int .i8 n).wf = true) : -128 ≤ n ∧ n ≤ 127 := by
 have h1 : IntKind.i8.min = -128 := rfl
 have h2 : IntKind.i8.max = 127 := rfl
 simp only [Lit.wf, Bool.and_eq_true, decide_eq_true_eq] at h
 omega
theorem tmod_65 (v : Int) : -64 ≤ v.tmod 65 ∧ v.tmod 65 ≤ 64 := by
 have h1 := Int.tmod_lt_of_pos v (show (0 : Int) < 65 by decide)
 have h2 := Int.lt_tmod_of_pos v (show (0 : Int) < 65 by decide)
 omega
set_option maxHeartbeats 4000000 in
set_option maxRecDepth 100000 in
theorem walk (A_a : Option Addr) (n_a c_a : Nat) (ts_a : List Nd) (A_b : Option Addr) (n_b c_b : Nat) (ts_b : List Nd) (v_n : Int) (w : World) (h_a : TreR w A_a n_a c_a ts_a) (h_b : TreR w A_b n_b c_b ts_b) (f_n : (Lit.int .i8 v_n).wf = true) (HT : XTab w) :
 Calls Tryd.prog 4 #[.slice A_a n_a c_a, .slice A_b n_b c_b, .int .i8 v_n] w fun e w' => e = .returned (.bool true) ∧ Below w.heap.size w w' := by
 have HT0 := Lib.hid HT
 clear HT
 have bw := bel_refl w
 obtain ⟨w0_n, w1_n⟩ := wf_i8t f_n
 clear f_n
 obtain ⟨lg_a, hlg_a⟩ : ∃ b, largeT ts_a = b := ⟨_, rfl⟩
 have HL_a := Lib.hid hlg_a
 clear hlg_a
 obtain ⟨gd_a, hgd_a⟩ : ∃ b, goodT ts_a = b := ⟨_, rfl⟩
 have HG_a := Lib.hid hgd_a
 clear hgd_a
 obtain ⟨lg_b, hlg_b⟩ : ∃ b, largeT ts_b = b := ⟨_, rfl⟩
 have HL_b := Lib.hid hlg_b
 clear hlg_b
 obtain ⟨gd_b, hgd_b⟩ : ∃ b, goodT ts_b = b := ⟨_, rfl⟩
 have HG_b := Lib.hid hgd_b
 clear hgd_b
 go_enter Tryd.func4, Tryd.ntmps4
 go_wp2_with fail
 refine (kLarge_c h_a lg_a HL_a.out).mono ?_
 rintro e w1 ⟨rfl, bn⟩
 replace h_a := h_a.below bn
 replace h_b := h_b.below bn
 replace bw := below_two bw bn
 clear bn
 cases lg_a with
 | true =>
  go_wp2_with fail
  refine (wakes_any w1 (Lib.hid (HT0.out.below bw))).mono ?_
  rintro e w99 ⟨rfl, bn⟩
  replace bw := below_two bw bn
  clear bn
  go_wp2
  go_ret
  exact ⟨rfl, bw⟩
 | false =>
  have HM_a := Lib.hid (mild_small HL_a.out)
  go_wp2_with fail
  refine (kLarge_c h_b lg_b HL_b.out).mono ?_
  rintro e w2 ⟨rfl, bn⟩
  replace h_a := h_a.below bn
  replace h_b := h_b.below bn
  replace bw := below_two bw bn
  clear bn
  cases lg_b with
  | true =>
   go_wp2_with fail
   refine (wakes_any w2 (Lib.hid (HT0.out.below bw))).mono ?_
   rintro e w99 ⟨rfl, bn⟩
   replace bw := below_two bw bn
   clear bn
   go_wp2
   go_ret
   exact ⟨rfl, bw⟩
  | false =>
   have HM_b := Lib.hid (mild_small HL_b.out)
   go_wp2_with fail
   refine (rTGood_c h_a HM_a.out gd_a HG_a.out).mono ?_
   rintro e w3 ⟨rfl, bn⟩
   replace h_a := h_a.below bn
   replace h_b := h_b.below bn
   replace bw := below_two bw bn
   clear bn
   cases gd_a with
   | false =>
    go_wp2_with fail
    refine (wakes_any w3 (Lib.hid (HT0.out.below bw))).mono ?_
    rintro e w99 ⟨rfl, bn⟩
    replace bw := below_two bw bn
    clear bn
    go_wp2
    go_ret
    exact ⟨rfl, bw⟩
   | true =>
    go_wp2_with fail
    refine (rTGood_c h_b HM_b.out gd_b HG_b.out).mono ?_
    rintro e w4 ⟨rfl, bn⟩
    replace h_a := h_a.below bn
    replace h_b := h_b.below bn
    replace bw := below_two bw bn
    clear bn
    cases gd_b with
    | false =>
     go_wp2_with fail
     refine (wakes_any w4 (Lib.hid (HT0.out.below bw))).mono ?_
     rintro e w99 ⟨rfl, bn⟩
     replace bw := below_two bw bn
     clear bn
     go_wp2
     go_ret
     exact ⟨rfl, bw⟩
    | true =>
     have hb_a := good_all HG_a.out
     have HN_a := Lib.hid h_a.1
     have l0_a : 1 ≤ n_a := by rw [HN_a.out]; exact hb_a.1
     have l1_a : n_a ≤ 2000 := by rw [HN_a.out]; exact hb_a.2.1
     clear hb_a
     have hb_b := good_all HG_b.out
     have HN_b := Lib.hid h_b.1
     have l0_b : 1 ≤ n_b := by rw [HN_b.out]; exact hb_b.1
     have l1_b : n_b ≤ 2000 := by rw [HN_b.out]; exact hb_b.2.1
     clear hb_b
     by_cases hl : 1000 < n_a + n_b
     · have e1 : decide ((1000 : Int) < (n_a : Int) + (n_b : Int)) = true := decide_eq_true (by omega)
       have e2 : decide (1000 < n_a + n_b) = true := decide_eq_true hl
       go_wp2_with fail
       refine (wakes_any w4 (Lib.hid (HT0.out.below bw))).mono ?_
       rintro e w99 ⟨rfl, bn⟩
       replace bw := below_two bw bn
       clear bn
       go_wp2
       go_ret
       exact ⟨rfl, bw⟩
     · have e1 : decide ((1000 : Int) < (n_a : Int) + (n_b : Int)) = false := decide_eq_false (by omega)
       have e2 : decide (1000 < n_a + n_b) = false := decide_eq_false hl
       obtain ⟨Tc, pc, lc, Mc, gc, dc, tc, gc2, Mc2⟩ := sizes_c HN_a.out HN_b.out HG_a.out HG_b.out (by omega) HM_a.out HM_b.out
       obtain ⟨Td, pd, ld, Md, gd, dd, td⟩ := sizes_d 7 0 HN_a.out HG_a.out (by omega) HM_a.out neg_fits (by decide)
       obtain ⟨K, hK⟩ : ∃ K, v_n.tmod 65 = K := ⟨_, rfl⟩
       have hk6 := tmod_65 v_n
       rw [hK] at hk6
       obtain ⟨k0, k1⟩ := hk6
       obtain ⟨Te, pe, le, Me, ge, de, te⟩ := sizes_d 8 K HN_b.out HG_b.out (by omega) HM_b.out (pow_fits k0 k1) (by decide)
       have Hpc := Lib.hid pc
       clear pc
       have Hlc := Lib.hid lc
       clear lc
       have HMc := Lib.hid Mc
       clear Mc
       have Hgc := Lib.hid gc
       clear gc
       have Hdc := Lib.hid dc
       clear dc
       have Htc := Lib.hid tc
       clear tc
       have Hgc2 := Lib.hid gc2
       clear gc2
       have HMc2 := Lib.hid Mc2
       clear Mc2
       have Hpd := Lib.hid pd
       clear pd
       have Hld := Lib.hid ld
       clear ld
       have HMd := Lib.hid Md
       clear Md
       have Hgd := Lib.hid gd
       clear gd
       have Hdd := Lib.hid dd
       clear dd
       have Htd := Lib.hid td
       clear td
       have Hpe := Lib.hid pe
       clear pe
       have Hle := Lib.hid le
       clear le
       have HMe := Lib.hid Me
       clear Me
       have Hge := Lib.hid ge
       clear ge
       have Hde := Lib.hid de
       clear de
       have Hte := Lib.hid te
       clear te
       obtain ⟨da, hda⟩ : ∃ d, deepI ts_a = d := ⟨_, rfl⟩
       obtain ⟨db, hdb⟩ : ∃ d, deepI ts_b = d := ⟨_, rfl⟩
       obtain ⟨mx, hmx⟩ : ∃ d, max da db = d := ⟨_, rfl⟩
       have ba := deep_le HG_a.out
       have bb := deep_le HG_b.out
       rw [← HN_a.out, hda] at ba
       rw [← HN_b.out, hdb] at bb
       have HDa := Lib.hid hda
       have HDb := Lib.hid hdb
       have HDc2 : Hid (deepI Tc = 1 + mx) := by show _ = _; rw [Hdc.out, hda, hdb, hmx]
       have HDd2 : Hid (deepI Td = 1 + da) := by show _ = _; rw [Hdd.out, hda]
       have HDe2 : Hid (deepI Te = 1 + db) := by show _ = _; rw [Hde.out, hdb]
       have hm1 : max (da : Int) (db : Int) = (mx : Int) := by omega
       have bm : mx ≤ 2000 := by omega
       obtain ⟨ba0, ba1⟩ := ba
       obtain ⟨bb0, bb1⟩ := bb
       clear hda hdb hmx Hdc Hdd Hde
       go_wp2_with fail
       refine (tJoin_c 4 (HT0.out.below bw) h_a HM_a.out h_b HM_b.out (some Tc) (fun _ => Hpc.out) (fun h => by cases h)).mono ?_
       rintro e w5 ⟨A_c, n_c, c_c, rfl, h_tc, bn⟩
       replace h_a := h_a.below bn
       replace h_b := h_b.below bn
       replace bw := below_two bw bn
       clear bn
       replace h_tc : TreR w5 A_c n_c c_c Tc := h_tc
       obtain rfl : n_c = n_a + n_b + 1 := by rw [h_tc.1, Hlc.out]
       have cc_c := h_tc.2.1
       have cm_c : c_c ≤ 9223372036854775807 := h_tc.2.2.1
       obtain ⟨g_c, o_c, ea, _, _⟩ := h_tc.2.2.2 (by omega)
       subst ea
       go_wp2_with fail
       refine (tNeg_c (HT0.out.below bw) h_a HM_a.out (some Td) Hpd.out).mono ?_
       rintro e w6 ⟨A_d, n_d, c_d, rfl, h_td, bn⟩
       replace h_a := h_a.below bn
       replace h_b := h_b.below bn
       replace h_tc := h_tc.below bn
       replace bw := below_two bw bn
       clear bn
       replace h_td : TreR w6 A_d n_d c_d Td := h_td
       obtain rfl : n_d = n_a + 1 := by rw [h_td.1, Hld.out]
       have cc_d := h_td.2.1
       have cm_d : c_d ≤ 9223372036854775807 := h_td.2.2.1
       obtain ⟨g_d, o_d, ea, _, _⟩ := h_td.2.2.2 (by omega)
       subst ea
       go_wp2_with fail
       try rw [hK]
       refine (tPow_c K (HT0.out.below bw) h_b HM_b.out (some Te) Hpe.out).mono ?_
       rintro e w7 ⟨A_e, n_e, c_e, rfl, h_te, bn⟩
       replace h_a := h_a.below bn
       replace h_b := h_b.below bn
       replace h_tc := h_tc.below bn
       replace h_td := h_td.below bn
       replace bw := below_two bw bn
       clear bn
       replace h_te : TreR w7 A_e n_e c_e Te := h_te
       obtain rfl : n_e = n_b + 1 := by rw [h_te.1, Hle.out]
       have cc_e := h_te.2.1
       have cm_e : c_e ≤ 9223372036854775807 := h_te.2.2.1
       obtain ⟨g_e, o_e, ea, _, _⟩ := h_te.2.2.2 (by omega)
       subst ea
       go_wp2_with fail
       refine (tGood_c h_tc HMc.out (HT0.out.below bw) true Hgc.out).mono ?_
       rintro e w8 ⟨rfl, bn⟩
       replace h_a := h_a.below bn
       replace h_b := h_b.below bn
       replace h_tc := h_tc.below bn
       replace h_td := h_td.below bn
       replace h_te := h_te.below bn
       replace bw := below_two bw bn
       clear bn
       go_wp2_with fail
       refine (tGood_c h_td HMd.out (HT0.out.below bw) true Hgd.out).mono ?_
       rintro e w9 ⟨rfl, bn⟩
       replace h_a := h_a.below bn
       replace h_b := h_b.below bn
       replace h_tc := h_tc.below bn
       replace h_td := h_td.below bn
       replace h_te := h_te.below bn
       replace bw := below_two bw bn
       clear bn
       go_wp2_with fail
       refine (tGood_c h_te HMe.out (HT0.out.below bw) true Hge.out).mono ?_
       rintro e w10 ⟨rfl, bn⟩
       replace h_a := h_a.below bn
       replace h_b := h_b.below bn
       replace h_tc := h_tc.below bn
       replace h_td := h_td.below bn
       replace h_te := h_te.below bn
       replace bw := below_two bw bn
       clear bn
       go_wp2_with fail
       have h_p : TreR w10 (some ⟨g_c, o_c, none⟩) n_a c_c ts_a := by have h := h_tc.take (m := n_a) (by omega); rw [Htc.out] at h; exact h
       refine (kTree_c h_p h_a true (eqT_iff.2 rfl)).mono ?_
       rintro e w11 ⟨rfl, bn⟩
       replace h_a := h_a.below bn
       replace h_b := h_b.below bn
       replace h_tc := h_tc.below bn
       replace h_td := h_td.below bn
       replace h_te := h_te.below bn
       replace bw := below_two bw bn
       clear bn
       clear h_p
       go_wp2_with fail
       have h_p : TreR w11 (some ⟨g_d, o_d, none⟩) n_a c_d ts_a := by have h := h_td.take (m := n_a) (by omega); rw [Htd.out] at h; exact h
       refine (kTree_c h_p h_a true (eqT_iff.2 rfl)).mono ?_
       rintro e w12 ⟨rfl, bn⟩
       replace h_a := h_a.below bn
       replace h_b := h_b.below bn
       replace h_tc := h_tc.below bn
       replace h_td := h_td.below bn
       replace h_te := h_te.below bn
       replace bw := below_two bw bn
       clear bn
       clear h_p
       go_wp2_with fail
       have h_p : TreR w12 (some ⟨g_e, o_e, none⟩) n_b c_e ts_b := by have h := h_te.take (m := n_b) (by omega); rw [Hte.out] at h; exact h
       refine (kTree_c h_p h_b true (eqT_iff.2 rfl)).mono ?_
       rintro e w13 ⟨rfl, bn⟩
       replace h_a := h_a.below bn
       replace h_b := h_b.below bn
       replace h_tc := h_tc.below bn
       replace h_td := h_td.below bn
       replace h_te := h_te.below bn
       replace bw := below_two bw bn
       clear bn
       clear h_p
       go_wp2_with fail
       have h_p : TreR w13 (some ⟨g_c, o_c, none⟩) (n_a + n_b) c_c (Tc.take (n_a + n_b)) := h_tc.take (by omega)
       refine (tGood_c h_p HMc2.out (HT0.out.below bw) false Hgc2.out).mono ?_
       rintro e w14 ⟨rfl, bn⟩
       replace h_a := h_a.below bn
       replace h_b := h_b.below bn
       replace h_tc := h_tc.below bn
       replace h_td := h_td.below bn
       replace h_te := h_te.below bn
       replace bw := below_two bw bn
       clear bn
       clear h_p
       go_wp2_with fail
       refine (tDeep_c h_tc HMc.out (HT0.out.below bw) (1 + mx) HDc2.out).mono ?_
       rintro e w15 ⟨rfl, bn⟩
       replace h_a := h_a.below bn
       replace h_b := h_b.below bn
       replace h_tc := h_tc.below bn
       replace h_td := h_td.below bn
       replace h_te := h_te.below bn
       replace bw := below_two bw bn
       clear bn
       go_wp2_with fail
       refine (tDeep_c h_a HM_a.out (HT0.out.below bw) da HDa.out).mono ?_
       rintro e w16 ⟨rfl, bn⟩
       replace h_a := h_a.below bn
       replace h_b := h_b.below bn
       replace h_tc := h_tc.below bn
       replace h_td := h_td.below bn
       replace h_te := h_te.below bn
       replace bw := below_two bw bn
       clear bn
       go_wp2_with fail
       refine (tDeep_c h_b HM_b.out (HT0.out.below bw) db HDb.out).mono ?_
       rintro e w17 ⟨rfl, bn⟩
       replace h_a := h_a.below bn
       replace h_b := h_b.below bn
       replace h_tc := h_tc.below bn
       replace h_td := h_td.below bn
       replace h_te := h_te.below bn
       replace bw := below_two bw bn
       clear bn
       go_wp2_with fail
       refine (tDeep_c h_td HMd.out (HT0.out.below bw) (1 + da) HDd2.out).mono ?_
       rintro e w18 ⟨rfl, bn⟩
       replace h_a := h_a.below bn
       replace h_b := h_b.below bn
       replace h_tc := h_tc.below bn
       replace h_td := h_td.below bn
       replace h_te := h_te.below bn
       replace bw := below_two bw bn
       clear bn
       go_wp2_with fail
       refine (tDeep_c h_a HM_a.out (HT0.out.below bw) da HDa.out).mono ?_
       rintro e w19 ⟨rfl, bn⟩
       replace h_a := h_a.below bn
       replace h_b := h_b.below bn
       replace h_tc := h_tc.below bn
       replace h_td := h_td.below bn
       replace h_te := h_te.below bn
       replace bw := below_two bw bn
       clear bn
       go_wp2_with fail
       refine (tDeep_c h_te HMe.out (HT0.out.below bw) (1 + db) HDe2.out).mono ?_
       rintro e w20 ⟨rfl, bn⟩
       replace h_a := h_a.below bn
       replace h_b := h_b.below bn
       replace h_tc := h_tc.below bn
       replace h_td := h_td.below bn
       replace h_te := h_te.below bn
       replace bw := below_two bw bn
       clear bn
       go_wp2_with fail
       refine (tDeep_c h_b HM_b.out (HT0.out.below bw) db HDb.out).mono ?_
       rintro e w21 ⟨rfl, bn⟩
       replace h_a := h_a.below bn
       replace h_b := h_b.below bn
       replace h_tc := h_tc.below bn
       replace h_td := h_td.below bn
       replace h_te := h_te.below bn
       replace bw := below_two bw bn
       clear bn
       go_wp2_with fail
       refine (tDeep_c h_a HM_a.out (HT0.out.below bw) da HDa.out).mono ?_
       rintro e w22 ⟨rfl, bn⟩
       replace h_a := h_a.below bn
       replace h_b := h_b.below bn
       replace h_tc := h_tc.below bn
       replace h_td := h_td.below bn
       replace h_te := h_te.below bn
       replace bw := below_two bw bn
       clear bn
       go_wp2_with fail
       refine (wakes_any w22 (Lib.hid (HT0.out.below bw))).mono ?_
       rintro e w99 ⟨rfl, bn⟩
       replace bw := below_two bw bn
       clear bn
       go_wp2
       go_ret
       exact ⟨rfl, bw⟩
theorem tab_of {W : World} (h : laidMet Tryd.prog Rows.treeSizesRow.laid W) : XTab W := by
 refine ⟨?_, ?_⟩
 · first | exact kinds_tab (laidMet_drop 0 h) (by decide +kernel) | exact kinds_tab (laidMet_drop 1 h) (by decide +kernel) | exact kinds_tab (laidMet_drop 2 h) (by decide +kernel) | exact kinds_tab (laidMet_drop 3 h) (by decide +kernel) | exact kinds_tab (laidMet_drop 4 h) (by decide +kernel) | exact kinds_tab (laidMet_drop 5 h) (by decide +kernel) | exact kinds_tab (laidMet_drop 6 h) (by decide +kernel) | exact kinds_tab (laidMet_drop 7 h) (by decide +kernel) | exact kinds_tab (laidMet_drop 8 h) (by decide +kernel) | exact kinds_tab (laidMet_drop 9 h) (by decide +kernel) | exact kinds_tab (laidMet_drop 10 h) (by decide +kernel) | exact kinds_tab (laidMet_drop 11 h) (by decide +kernel) | exact kinds_tab (laidMet_drop 12 h) (by decide +kernel) | exact kinds_tab (laidMet_drop 13 h) (by decide +kernel)
 · first | exact lkinds_tab (laidMet_drop 0 h) (by decide +kernel) | exact lkinds_tab (laidMet_drop 1 h) (by decide +kernel) | exact lkinds_tab (laidMet_drop 2 h) (by decide +kernel) | exact lkinds_tab (laidMet_drop 3 h) (by decide +kernel) | exact lkinds_tab (laidMet_drop 4 h) (by decide +kernel) | exact lkinds_tab (laidMet_drop 5 h) (by decide +kernel) | exact lkinds_tab (laidMet_drop 6 h) (by decide +kernel) | exact lkinds_tab (laidMet_drop 7 h) (by decide +kernel) | exact lkinds_tab (laidMet_drop 8 h) (by decide +kernel) | exact lkinds_tab (laidMet_drop 9 h) (by decide +kernel) | exact lkinds_tab (laidMet_drop 10 h) (by decide +kernel) | exact lkinds_tab (laidMet_drop 11 h) (by decide +kernel) | exact lkinds_tab (laidMet_drop 12 h) (by decide +kernel) | exact lkinds_tab (laidMet_drop 13 h) (by decide +kernel)
set_option maxRecDepth 100000 in
theorem lifted (os : Os) (started : os.Started) (H : Type) (enc : TypeId × Value → H) :
 ReturnsInHanded {} Tryd.checked os 4 .any (fun w args => (Rows.treeSizesSpec.pre enc Tryd.prog Tryd.f4 [] false w args ∧ laidMetH Tryd.prog Rows.treeSizesRow.laid w) ∧ sizedMet enc Tryd.prog Tryd.f4 (OpenSpec.ofChange Rows.treeSizesSpec) false w args)
  (Rows.treeSizesSpec.post enc Tryd.prog Tryd.f4 false true false false) := by
 refine returnsInHanded_of_change_and (C := Tryd.checked) (X := fun w _ => laidMetH Tryd.prog Rows.treeSizesRow.laid w) (fun _ _ _ hh h => h.of_heap hh) own started (by kernel_rfl) Tryd.func4
  (ChangeSpec.witness_shaped (enc := enc) (C := Tryd.checked) (os := os) (X := fun w _ => laidMetH Tryd.prog Rows.treeSizesRow.laid w) false (World.laidAll Tryd.prog os Rows.treeSizesRow.laid) #[.slice none 0 0, .slice none 0 0, .int .i8 0] 8 (World.laidAll_os _ _ _)
    (World.shaped_of_ZipB (by kernel_rfl) (by kernel_rfl)) (by kernel_rfl) (by kernel_rfl) (by kernel_rfl)
    (by rw [MakeChecks.laidMetH_plain _ _ _ (by kernel_rfl)]; exact laidMet_laidAll _ (by kernel_rfl) (by kernel_rfl))) ?_
 intro W base args ds gs before hval0 hW _ _ hL _
 have hval : ∀ (j : Nat) t v, Tryd.f4.params[j]? = some t → args[j]? = some v → Value.okWide Tryd.prog W .any base t v := hval0
 have hW' := hW
 obtain ⟨p, q, hA0, hV, rfl, hfz, hnd⟩ := hW
 have hA : DataW.TrodAll enc Tryd.prog W 0 (fun _ => true) true Tryd.f4.params.toList args.toList ds p := hA0
 rw [Tryd.params4] at hA hval
 obtain ⟨v0, vs0, d0, ds0, p0, q0, hargs, rfl, rfl, h0, r0⟩ := trodAll_cons hA
 obtain ⟨v1, vs1, d1, ds1, p1, q1, rfl, rfl, rfl, h1, r1⟩ := trodAll_cons r0
 obtain ⟨v2, vs2, d2, ds2, p2, q2, rfl, rfl, rfl, h2, r2⟩ := trodAll_cons r1
 obtain ⟨rfl, rfl, rfl⟩ := trodAll_nil r2
 obtain rfl : args = #[v0, v1, v2] := by cases args; simp_all
 obtain ⟨rfl, rfl⟩ := trodVars_none hV
 obtain ⟨a0, len0, cap0, rfl⟩ := okWide_slice Tryd.underlying23 (hval 0 23 v0 rfl rfl)
 obtain ⟨z0, i0⟩ := open_tree h0
 obtain ⟨a1, len1, cap1, rfl⟩ := okWide_slice Tryd.underlying23 (hval 1 23 v1 rfl rfl)
 obtain ⟨z1, i1⟩ := open_tree h1
 obtain ⟨a2, rfl, rfl, rfl, w2⟩ := open_int Tryd.underlying45 (hval 2 45 v2 rfl rfl) h2
 clear hA0 hval0
 simp only [List.append_nil] at hW'
 rw [MakeChecks.laidMetH_plain _ _ _ (by kernel_rfl)] at hL
 refine (walk a0 len0 cap0 z0 a1 len1 cap1 z1 a2 W i0 i1 w2 (tab_of hL)).mono fun e W' ⟨he, bel⟩ => ?_
 subst he
 exact ⟨_, rfl, _, _, _, [], _, [], hW', trodAll_mk1 (shut_bool Tryd.underlying4 _), (trodAll_cons_mk (Below.trod laidOut (by kernel_rfl) (of_decide_eq_true (by kernel_rfl)) h0 bel (places_lt h0)) (trodAll_cons_mk (Below.trod laidOut (by kernel_rfl) (of_decide_eq_true (by kernel_rfl)) h1 bel (places_lt h1)) (trodAll_cons_mk (shut_int Tryd.underlying45 w2) trodAll_mk0))), rfl, bel.frame _, fun h => by cases h⟩
theorem over : Rows.treeSizesRow.holds Tryd.pinned (OpenSpec.ofChange Rows.treeSizesSpec) :=
 OpenClaim.holds_of_wide 4 Tryd.f4 rfl rfl rfl rfl rfl rfl rfl ⟨rfl, rfl, rfl, rfl, rfl⟩ rfl rfl rfl rfl rfl (by kernel_rfl) Tryd.func4 (by kernel_rfl)
  (of_decide_eq_true (by kernel_rfl)) (by unfold Func.isWrapper; first | (rw [if_pos (by decide +kernel)]; kernel_rfl) | (rw [if_neg (by decide +kernel)]; exact ⟨rfl, rfl⟩))
  (fun os started H enc _ => lifted os started H enc)
theorem proved : Rows.TreeSizesCardSaid :=
 Claim7.holds_tied_plain_at .later [] Rows.treeSizesCard.laidKinds true Rows.treeSizesCard.stood.harness Rows.treeSizesCard.stood.looks
  over (fun _ h => by cases h) (by kernel_rfl) (fun _ h => by cases h) treeSizes_row_tie rfl ⟨rfl, rfl⟩ (by kernel_rfl) rfl
  (fun f fn hf hfn => by
    obtain rfl : f = 4 := Option.some.inj ((show Tryd.prog.funcNamed Rows.treeSizesRow.func = some 4 by kernel_rfl).symm.trans hf) |>.symm
    obtain rfl : fn = Tryd.f4 := (Option.some.inj (Tryd.func4.symm.trans hfn)).symm
    exact ⟨by kernel_rfl, fun j t ht => by
     have hm : t ∈ Tryd.f4.params.toList := by simpa using Array.mem_of_getElem? ht
     have hall : (Tryd.f4.params.toList.all fun u => !Tryd.prog.wantsStandIn u) = true := by kernel_rfl
     exact (show Tryd.prog.wantsStandIn t = false by simpa using List.all_eq_true.1 hall t hm)⟩)
  (by kernel_rfl)
end Go.Proofs.YtbddhflmknaadaaDoor.lawTreeSizes
