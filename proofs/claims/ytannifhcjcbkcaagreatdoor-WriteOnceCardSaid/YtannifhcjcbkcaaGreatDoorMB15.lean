/- Part 15 of the texts that the statements of this seat lean on: mathematics, and what functions answer, as contracts over memory; each part says its own conditions. -/
import Derived.Test.YtannifhcjcbkcaaGreatDoorMB14
import Derived.Lib.LaidTab
import Derived.Lib.LaidU8
set_option linter.unusedVariables false
set_option maxHeartbeats 8000000
namespace Go.Proofs.YtannifhcjcbkcaaGreatDoor
open Go.RowKit Limb
open Lib (hid)
theorem yj7 {w : World} {A : Option Addr} {n c : Nat} {ts : List Nd} (h : TreR w A n c ts) (hg : xq5 ts = true) (hm : Mild ts) (T : WrT w) (F : ByteArray) (hF : strOf (xzz ts) = F) :
 Calls Tryz.prog 55 #[.slice A n c] w fun e w' => e = .returned (.string F) ∧ Below w.heap.size w w' := by
 subst hF; exact zqg h hg hm T
theorem itoaF_c (e : Int) (h : -9223372036854775808 ≤ e ∧ e ≤ 9223372036854775807) (w : World) (T : P10 w) (Z : ByteArray) (hZ : strOf (zT e) = Z) :
 Calls Tryz.prog 99 #[.int .i64 e] w fun x w' => x = .returned (.string Z) ∧ Below w.heap.size w w' := by
 subst hZ; exact itoaT_c e h w T
theorem xzs (a b : List (List Nat)) : strs (a ++ b) = strs a ++ strs b := by unfold strs; rw [List.map_append]
set_option maxRecDepth 100000 in
theorem wLine1_c (nm ot nu va un : List Nat) (hbu : Bytes un) {A : Option Addr} {n c : Nat} {ts : List Nd} (pl at1 : Int) {w : World} (h : TreR w A n c ts) (hm : Mild ts) (hs : nm.length ≤ 1000000 ∧ ot.length ≤ 1000000 ∧ nu.length ≤ 1000000 ∧ va.length ≤ 1000000 ∧ un.length ≤ 1000000) (T : WrT w) :
 Calls Tryz.prog 57 #[.agg (dcC 1 (strOf nm) (strOf ot) (strOf nu) (strOf va) (strOf un) A n c pl at1)] w fun e w' => e = .returned (.string (strOf (xz2 ([[117, 110, 105, 116], nm, [61], nu, brU un] ++ [[59]]) ++ [10]))) ∧ Below w.heap.size w w' := by
 have Hsz := hid hs;obtain ⟨s1, s2, s3, s4, s5⟩ := hs;obtain ⟨NM, hNM⟩ : ∃ x : ByteArray, strOf nm = x := ⟨_, rfl⟩;rw [hNM];have zNM : NM.size ≤ 1000000 := by rw [← hNM, xqh]; assumption
 have HNM := hid hNM;clear hNM;obtain ⟨OT, hOT⟩ : ∃ x : ByteArray, strOf ot = x := ⟨_, rfl⟩;rw [hOT];have zOT : OT.size ≤ 1000000 := by rw [← hOT, xqh]; assumption
 have HOT := hid hOT;clear hOT;obtain ⟨NU, hNU⟩ : ∃ x : ByteArray, strOf nu = x := ⟨_, rfl⟩;rw [hNU];have zNU : NU.size ≤ 1000000 := by rw [← hNU, xqh]; assumption
 have HNU := hid hNU;clear hNU;obtain ⟨VA, hVA⟩ : ∃ x : ByteArray, strOf va = x := ⟨_, rfl⟩;rw [hVA];have zVA : VA.size ≤ 1000000 := by rw [← hVA, xqh]; assumption
 have HVA := hid hVA;clear hVA;obtain ⟨UN, hUN⟩ : ∃ x : ByteArray, strOf un = x := ⟨_, rfl⟩;rw [hUN];have zUN : UN.size ≤ 1000000 := by rw [← hUN, xqh]; assumption
 have HUN := hid hUN;clear hUN;clear s1 s2 s3 s4 s5;have HM := hid hm;have bn := xqc w (.cells (dcC 1 NM OT NU VA UN A n c pl at1) 62);have h_rx := xqd w 62 (dcC 1 NM OT NU VA UN A n c pl at1);have HR := hid (h.below bn);have HT := hid (T.below bn);have HBw := hid bn;clear h bn T hm;go_enter Tryz.func57, Tryz.ntmps57
 go_upto_region 2 with fail
 generalize w.alloc (.cells (dcC 1 NM OT NU VA UN A n c pl at1) 62) = wA at *;obtain ⟨q_x, eg⟩ : ∃ g, g = w.heap.size := ⟨_, rfl⟩;rw [← eg] at h_rx ⊢;clear eg;have HX := hid h_rx;clear h_rx;have k0 := HX.out.cell (k := 0) (v := .int .i64 1) rfl;obtain ⟨R, hR⟩ : ∃ R : ByteArray, strOf (91 :: (un ++ [93])) = R := ⟨_, rfl⟩;have HR8 : Hid (strOf (brU un) = R) := hR;have HRb : Hid (strOf (91 :: (bytesOf UN ++ [93])) = R) := by show _ = _; rw [← HUN.out, xqk hbu, hR]
 clear hR;go_wp2_with fail
 refine xz7 8 1 [8, 9, 10, 11, 12, 13, 14, 15] ?aF1 (fun wx => Below wA.heap.size wA wx) (fun k vv wx => match k with
  | 0 => vv = .pointer (some ⟨q_x, 1, none⟩)
  | 1 => vv = .string NM
  | 2 => vv = .pointer (some ⟨q_x, 3, none⟩)
  | 3 => vv = .string NU
  | 4 => vv = .pointer (some ⟨q_x, 5, none⟩)
  | 5 => vv = .string UN
  | 6 => vv = .string R
  | _ => ∃ (e0 : Nat), vv = .slice (some ⟨e0, 0, none⟩) 5 5 ∧ NewS wA wx e0 #[.string ⟨#[117, 110, 105, 116]⟩, .string NM, .string ⟨#[61]⟩, .string NU, .string R])
  (fun k => false) (by kernel_rfl) ?haF1 rfl (by kernel_rfl) (by kernel_rfl) (fun _ _ _ _ _ h => h) ?hSb1 ?hPb1 ?hS1 ?hop1 ?hfin1
 case haF1 =>
  intro vals;simp only [xqx, List.getElem?_cons_zero, List.getElem?_cons_succ, Act.put, List.setIfInBounds_toArray, List.set_cons_zero, List.set_cons_succ];exact rfl
 case hSb1 => exact fun wx w2 hb hS => xqa hS hb
 case hPb1 =>
  intro k v wa wb hb h
  match k, h with
  | 0, h => exact h
  | 1, h => exact h
  | 2, h => exact h
  | 3, h => exact h
  | 4, h => exact h
  | 5, h => exact h
  | 6, h => exact h
  | _ + 7, ⟨e0, h1, g0⟩ => exact ⟨e0, h1, g0.below hb⟩
 case hS1 => exact (Below.refl _ _).drew
 case hop1 =>
  refine .cons (k := 0) ?_ (.cons (k := 1) ?_ (.cons (k := 2) ?_ (.cons (k := 3) ?_ (.cons (k := 4) ?_ (.cons (k := 5) ?_ (.cons (k := 6) ?_ (.cons (k := 7) ?_ (.nil))))))))
  all_goals intro vals wr hS hd KC hK
  all_goals (show Oper.wp _ _ _ _ _ _; dsimp only)
  · go_simp;refine hK _ _ rfl (Below.refl _ _) (by first | rfl | simp) (fun h => by cases h)
  · have d0 : vals 0 = _ := hd 0 (by decide +kernel);rw [d0];have z0 := (HX.out.below hS).cell (k := 1) (v := .string NM) rfl;go_simp;refine hK _ _ rfl (Below.refl _ _) (by first | rfl | simp) (fun h => by cases h)
  · go_simp;refine hK _ _ rfl (Below.refl _ _) (by first | rfl | simp) (fun h => by cases h)
  · have d2 : vals 2 = _ := hd 2 (by decide +kernel);rw [d2];have z0 := (HX.out.below hS).cell (k := 3) (v := .string NU) rfl;go_simp;refine hK _ _ rfl (Below.refl _ _) (by first | rfl | simp) (fun h => by cases h)
  · go_simp;refine hK _ _ rfl (Below.refl _ _) (by first | rfl | simp) (fun h => by cases h)
  · have d4 : vals 4 = _ := hd 4 (by decide +kernel);rw [d4];have z0 := (HX.out.below hS).cell (k := 5) (v := .string UN) rfl;go_simp;refine hK _ _ rfl (Below.refl _ _) (by first | rfl | simp) (fun h => by cases h)
  · have d5 : vals 5 = _ := hd 5 (by decide +kernel);rw [d5];go_simp;go_at_call 98
    with_reducible refine (wBr_u UN zUN R HRb.out wr).mono ?_
    rintro e w2 ⟨rfl, rfl⟩;refine hK _ _ rfl (Below.refl _ _) rfl (fun h => by cases h)
  · have d1 : vals 1 = _ := hd 1 (by decide +kernel);have d3 : vals 3 = _ := hd 3 (by decide +kernel);have d6 : vals 6 = _ := hd 6 (by decide +kernel);rw [d1, d3, d6];go_simp;exact hK _ _ rfl (xqc _ _) ⟨_, rfl, ⟨xqd _ _ _, hS.size⟩⟩ (fun h => by cases h)
 case hfin1 =>
  intro vals wr hS hP hne;obtain ⟨n_7_0, ez_7, h_7_0⟩ := hP 7 (by decide)
  try dsimp only
  rw [ez_7];refine wpAny_ready (rs := [8]) (by kernel_rfl) (by simp) (AllReady.cons rfl (fun KC hK => ?_) AllReady.nil);go_simp;refine hK _ _ ?_;clear hK KC;refine wpAny_done (by kernel_rfl) ?_ _;have HO : Hid (OwnR wr wA.heap.size 9 1 (some ⟨n_7_0, 0, none⟩) 5 5 (strs ([[117, 110, 105, 116], nm, [61], nu, brU un]))) := by
   have := h_7_0.own (n := 5) rfl (by decide);rw [show strs ([[117, 110, 105, 116], nm, [61], nu, brU un]) = (#[.string ⟨#[117, 110, 105, 116]⟩, .string NM, .string ⟨#[61]⟩, .string NU, .string R] : Array Value).toList by unfold strs; simp only [List.map_cons, List.map_nil, HNM.out, HNU.out, HR8.out]; rfl];exact this
  have HB := hid hS;clear hS hP h_7_0 ez_7 hne k0;generalize wr = w0 at *;obtain ⟨g0, hg0⟩ : ∃ g, g = n_7_0 := ⟨_, rfl⟩;rw [← hg0] at HO ⊢;clear hg0;have bn := xqc w0 (.cells #[.string ⟨#[59]⟩] 9);have HOa : Hid (OwnR (w0.alloc (.cells #[.string ⟨#[59]⟩] 9)) wA.heap.size 9 1 (some ⟨g0, 0, none⟩) 5 5 (strs ([[117, 110, 105, 116], nm, [61], nu, brU un]))) := HO.out.below bn;have HYa : Hid (RowA (w0.alloc (.cells #[.string ⟨#[59]⟩] 9)) w0.heap.size 9 #[.string ⟨#[59]⟩] ∧ (#[.string ⟨#[59]⟩] : Array Value).size = 1 * 1 ∧ ∀ v ∈ (#[.string ⟨#[59]⟩] : Array Value), v.oneCell' = true) := ⟨xqd _ _ _, rfl, by simp [Value.oneCell']⟩;have HNa : Hid (5 ≤ 1000000 ∧ 1 ≤ 1000 ∧ wA.heap.size ≤ (w0.alloc (.cells #[.string ⟨#[59]⟩] 9)).heap.size) := ⟨by decide, by decide, Nat.le_trans HB.out.size bn.size⟩;have HBa := hid (HB.out.trans (bn.mono HB.out.size));clear bn HO;go_wp2_with (first | (at_builtin; refine xqr rfl _ _ _ rfl wA.heap.size 9 1 xzc _ _ _ _ rfl HOa _ _ rfl 9 #[.string ⟨#[59]⟩] HYa HNa ?_));intro A1 c1 v1 how hgr;have HO : Hid (OwnR v1 wA.heap.size 9 1 A1 (5 + 1) c1 (strs ([[117, 110, 105, 116], nm, [61], nu, brU un] ++ [[59]]))) := by
   have := how.out;rw [show strs ([[117, 110, 105, 116], nm, [61], nu, brU un] ++ [[59]]) = strs ([[117, 110, 105, 116], nm, [61], nu, brU un]) ++ (#[.string ⟨#[59]⟩] : Array Value).toList by rw [xzs]; congr 1 <;> unfold strs <;> simp only [List.map_cons, List.map_nil] <;> rfl];exact this
  replace HB := hid (xq6 HBa.out (Nat.le_refl _) HNa.out.2.2 HOa.out hgr.out);clear how hgr HOa HYa HNa HBa ;obtain ⟨J, hJ⟩ : ∃ J : ByteArray, strOf (xz2 ([[117, 110, 105, 116], nm, [61], nu, brU un] ++ [[59]])) = J := ⟨_, rfl⟩;have hJl : (xz2 ([[117, 110, 105, 116], nm, [61], nu, brU un] ++ [[59]])).length ≤ 10000000000000 := by
   simp only [xz2, brU, List.cons_append, List.nil_append, List.flatMap_cons, List.flatMap_nil, List.length_append, List.length_cons, List.length_nil];have a1 := Hsz.out;omega
  have HJ := hid (zq5 (l := [[117, 110, 105, 116], nm, [61], nu, brU un] ++ [[59]]) (by simp) HO.out (by simp) (by omega));have zJ : J.size ≤ 10000000000000 := by rw [← hJ, xqh]; exact hJl
  rw [hJ] at HJ;have HJe := hid hJ;clear hJ hJl HO;go_wp2_with (go_at_call 100; refine HJ.out.mono ?_);rintro e u9 ⟨rfl, b9⟩;have HB9 := hid (xqa HBw.out (HB.out.trans (b9.mono HB.out.size)));clear b9;go_wp2
  go_ret
  refine ⟨?_, HB9.out⟩;show Ending.returned (.string (J ++ ⟨#[10]⟩)) = _;rw [← HJe.out, show (⟨#[10]⟩ : ByteArray) = strOf [10] from rfl, xjh];rfl
set_option maxRecDepth 100000 in
theorem wLine2n_c (nm ot nu va un : List Nat) (hbu : Bytes un) {A : Option Addr} {n c : Nat} {ts : List Nd} (pl at1 : Int) {w : World} (h : TreR w A n c ts) (hm : Mild ts) (hs : nm.length ≤ 1000000 ∧ ot.length ≤ 1000000 ∧ nu.length ≤ 1000000 ∧ va.length ≤ 1000000 ∧ un.length ≤ 1000000) (T : WrT w) (hu : un = []) :
 Calls Tryz.prog 57 #[.agg (dcC 2 (strOf nm) (strOf ot) (strOf nu) (strOf va) (strOf un) A n c pl at1)] w fun e w' => e = .returned (.string (strOf (xz2 ([[115, 111, 117, 114, 99, 101], nm, [61], nu] ++ [[58], va] ++ [[59]]) ++ [10]))) ∧ Below w.heap.size w w' := by
 have Hsz := hid hs;obtain ⟨s1, s2, s3, s4, s5⟩ := hs;obtain ⟨NM, hNM⟩ : ∃ x : ByteArray, strOf nm = x := ⟨_, rfl⟩;rw [hNM];have zNM : NM.size ≤ 1000000 := by rw [← hNM, xqh]; assumption
 have HNM := hid hNM;clear hNM;obtain ⟨OT, hOT⟩ : ∃ x : ByteArray, strOf ot = x := ⟨_, rfl⟩;rw [hOT];have zOT : OT.size ≤ 1000000 := by rw [← hOT, xqh]; assumption
 have HOT := hid hOT;clear hOT;obtain ⟨NU, hNU⟩ : ∃ x : ByteArray, strOf nu = x := ⟨_, rfl⟩;rw [hNU];have zNU : NU.size ≤ 1000000 := by rw [← hNU, xqh]; assumption
 have HNU := hid hNU;clear hNU;obtain ⟨VA, hVA⟩ : ∃ x : ByteArray, strOf va = x := ⟨_, rfl⟩;rw [hVA];have zVA : VA.size ≤ 1000000 := by rw [← hVA, xqh]; assumption
 have HVA := hid hVA;clear hVA;obtain ⟨UN, hUN⟩ : ∃ x : ByteArray, strOf un = x := ⟨_, rfl⟩;rw [hUN];have zUN : UN.size ≤ 1000000 := by rw [← hUN, xqh]; assumption
 have HUN := hid hUN;clear hUN;clear s1 s2 s3 s4 s5;have HM := hid hm;have bn := xqc w (.cells (dcC 2 NM OT NU VA UN A n c pl at1) 62);have h_rx := xqd w 62 (dcC 2 NM OT NU VA UN A n c pl at1);have HR := hid (h.below bn);have HT := hid (T.below bn);have HBw := hid bn;clear h bn T hm;go_enter Tryz.func57, Tryz.ntmps57
 go_upto_region 2 with fail
 generalize w.alloc (.cells (dcC 2 NM OT NU VA UN A n c pl at1) 62) = wA at *;obtain ⟨q_x, eg⟩ : ∃ g, g = w.heap.size := ⟨_, rfl⟩;rw [← eg] at h_rx ⊢;clear eg;have HX := hid h_rx;clear h_rx;have k0 := HX.out.cell (k := 0) (v := .int .i64 2) rfl;obtain ⟨R, hR⟩ : ∃ R : ByteArray, strOf (91 :: (un ++ [93])) = R := ⟨_, rfl⟩;have HR8 : Hid (strOf (brU un) = R) := hR;have HRb : Hid (strOf (91 :: (bytesOf UN ++ [93])) = R) := by show _ = _; rw [← HUN.out, xqk hbu, hR]
 clear hR;have eUN : UN = ⟨#[]⟩ := by rw [← HUN.out, hu]; rfl
 subst eUN;have x1 := HX.out.cell (k := 1) (v := .string NM) rfl;have x3 := HX.out.cell (k := 3) (v := .string NU) rfl;have hY := xqd wA 9 #[.string ⟨#[115, 111, 117, 114, 99, 101]⟩, .string NM, .string ⟨#[61]⟩, .string NU];have bn := xqc wA (.cells #[.string ⟨#[115, 111, 117, 114, 99, 101]⟩, .string NM, .string ⟨#[61]⟩, .string NU] 9);have HB := hid bn;have HO : Hid (OwnR (wA.alloc (.cells #[.string ⟨#[115, 111, 117, 114, 99, 101]⟩, .string NM, .string ⟨#[61]⟩, .string NU] 9)) wA.heap.size 9 1 (some ⟨wA.heap.size, 0, none⟩) 4 4 (strs ([[115, 111, 117, 114, 99, 101], nm, [61], nu]))) := by
  have := (NewS.mk hY (Nat.le_refl _)).own (n := 4) rfl (by decide);rw [show strs ([[115, 111, 117, 114, 99, 101], nm, [61], nu]) = (#[.string ⟨#[115, 111, 117, 114, 99, 101]⟩, .string NM, .string ⟨#[61]⟩, .string NU] : Array Value).toList by unfold strs; simp only [List.map_cons, List.map_nil, HNM.out, HNU.out]; rfl];exact this
 clear hY bn
 go_upto_region 7 with fail
 try dsimp only [Act.put]
 generalize wA.alloc (.cells #[.string ⟨#[115, 111, 117, 114, 99, 101]⟩, .string NM, .string ⟨#[61]⟩, .string NU] 9) = w0 at *;clear k0 x1 x3;obtain ⟨g0, hg0⟩ : ∃ g, g = wA.heap.size := ⟨_, rfl⟩;have HO9 : Hid (OwnR w0 wA.heap.size 9 1 (some ⟨g0, 0, none⟩) 4 4 (strs ([[115, 111, 117, 114, 99, 101], nm, [61], nu]))) := by show OwnR _ _ _ _ _ _ _ _; rw [hg0]; exact HO.out
 rw [← hg0];clear hg0 HO;have HO := HO9;clear HO9;have x5 := (HX.out.below HB.out).cell (k := 5) (v := .string ⟨#[]⟩) rfl;have x4 := (HX.out.below HB.out).cell (k := 4) (v := .string VA) rfl;have bn := xqc w0 (.cells #[.string ⟨#[58]⟩, .string VA] 9);have HOa : Hid (OwnR (w0.alloc (.cells #[.string ⟨#[58]⟩, .string VA] 9)) wA.heap.size 9 1 (some ⟨g0, 0, none⟩) 4 4 (strs ([[115, 111, 117, 114, 99, 101], nm, [61], nu]))) := HO.out.below bn;have HYa : Hid (RowA (w0.alloc (.cells #[.string ⟨#[58]⟩, .string VA] 9)) w0.heap.size 9 #[.string ⟨#[58]⟩, .string VA] ∧ (#[.string ⟨#[58]⟩, .string VA] : Array Value).size = 2 * 1 ∧ ∀ v ∈ (#[.string ⟨#[58]⟩, .string VA] : Array Value), v.oneCell' = true) := ⟨xqd _ _ _, rfl, by simp [Value.oneCell']⟩;have HNa : Hid (4 ≤ 1000000 ∧ 2 ≤ 1000 ∧ wA.heap.size ≤ (w0.alloc (.cells #[.string ⟨#[58]⟩, .string VA] 9)).heap.size) := ⟨by decide, by decide, Nat.le_trans HB.out.size bn.size⟩;have HBa := hid (HB.out.trans (bn.mono HB.out.size));clear bn HO;go_wp2_with (first | (at_builtin; refine xqr rfl _ _ _ rfl wA.heap.size 9 1 xzc _ _ _ _ rfl HOa _ _ rfl 9 #[.string ⟨#[58]⟩, .string VA] HYa HNa ?_));intro A1 c1 v1 how hgr;have HO : Hid (OwnR v1 wA.heap.size 9 1 A1 (4 + 2) c1 (strs ([[115, 111, 117, 114, 99, 101], nm, [61], nu] ++ [[58], va]))) := by
  have := how.out;rw [show strs ([[115, 111, 117, 114, 99, 101], nm, [61], nu] ++ [[58], va]) = strs ([[115, 111, 117, 114, 99, 101], nm, [61], nu]) ++ (#[.string ⟨#[58]⟩, .string VA] : Array Value).toList by rw [xzs]; congr 1 <;> unfold strs <;> simp only [List.map_cons, List.map_nil, HVA.out] <;> rfl];exact this
 replace HB := hid (xq6 HBa.out (Nat.le_refl _) HNa.out.2.2 HOa.out hgr.out);clear how hgr HOa HYa HNa HBa x5 x4;have bn := xqc v1 (.cells #[.string ⟨#[59]⟩] 9);have HOa : Hid (OwnR (v1.alloc (.cells #[.string ⟨#[59]⟩] 9)) wA.heap.size 9 1 A1 6 c1 (strs ([[115, 111, 117, 114, 99, 101], nm, [61], nu] ++ [[58], va]))) := HO.out.below bn;have HYa : Hid (RowA (v1.alloc (.cells #[.string ⟨#[59]⟩] 9)) v1.heap.size 9 #[.string ⟨#[59]⟩] ∧ (#[.string ⟨#[59]⟩] : Array Value).size = 1 * 1 ∧ ∀ v ∈ (#[.string ⟨#[59]⟩] : Array Value), v.oneCell' = true) := ⟨xqd _ _ _, rfl, by simp [Value.oneCell']⟩;have HNa : Hid (6 ≤ 1000000 ∧ 1 ≤ 1000 ∧ wA.heap.size ≤ (v1.alloc (.cells #[.string ⟨#[59]⟩] 9)).heap.size) := ⟨by decide, by decide, Nat.le_trans HB.out.size bn.size⟩;have HBa := hid (HB.out.trans (bn.mono HB.out.size));clear bn HO;go_wp2_with (first | (at_builtin; refine xqr rfl _ _ _ rfl wA.heap.size 9 1 xzc _ _ _ _ rfl HOa _ _ rfl 9 #[.string ⟨#[59]⟩] HYa HNa ?_));intro A2 c2 v2 how hgr;have HO : Hid (OwnR v2 wA.heap.size 9 1 A2 (6 + 1) c2 (strs ([[115, 111, 117, 114, 99, 101], nm, [61], nu] ++ [[58], va] ++ [[59]]))) := by
  have := how.out;rw [show strs ([[115, 111, 117, 114, 99, 101], nm, [61], nu] ++ [[58], va] ++ [[59]]) = strs ([[115, 111, 117, 114, 99, 101], nm, [61], nu] ++ [[58], va]) ++ (#[.string ⟨#[59]⟩] : Array Value).toList by rw [xzs]; congr 1 <;> unfold strs <;> simp only [List.map_cons, List.map_nil] <;> rfl];exact this
 replace HB := hid (xq6 HBa.out (Nat.le_refl _) HNa.out.2.2 HOa.out hgr.out);clear how hgr HOa HYa HNa HBa ;obtain ⟨J, hJ⟩ : ∃ J : ByteArray, strOf (xz2 ([[115, 111, 117, 114, 99, 101], nm, [61], nu] ++ [[58], va] ++ [[59]])) = J := ⟨_, rfl⟩;have hJl : (xz2 ([[115, 111, 117, 114, 99, 101], nm, [61], nu] ++ [[58], va] ++ [[59]])).length ≤ 10000000000000 := by
  simp only [xz2, List.cons_append, List.nil_append, List.flatMap_cons, List.flatMap_nil, List.length_append, List.length_cons, List.length_nil];have a1 := Hsz.out;omega
 have HJ := hid (zq5 (l := [[115, 111, 117, 114, 99, 101], nm, [61], nu] ++ [[58], va] ++ [[59]]) (by simp) HO.out (by simp) (by omega));have zJ : J.size ≤ 10000000000000 := by rw [← hJ, xqh]; exact hJl
 rw [hJ] at HJ;have HJe := hid hJ;clear hJ hJl HO;go_wp2_with (go_at_call 100; refine HJ.out.mono ?_);rintro e u9 ⟨rfl, b9⟩;have HB9 := hid (xqa HBw.out (HB.out.trans (b9.mono HB.out.size)));clear b9;go_wp2
 go_ret
 refine ⟨?_, HB9.out⟩;show Ending.returned (.string (J ++ ⟨#[10]⟩)) = _;rw [← HJe.out, show (⟨#[10]⟩ : ByteArray) = strOf [10] from rfl, xjh];rfl
set_option maxRecDepth 100000 in
theorem wLine2u_c (nm ot nu va un : List Nat) (hbu : Bytes un) {A : Option Addr} {n c : Nat} {ts : List Nd} (pl at1 : Int) {w : World} (h : TreR w A n c ts) (hm : Mild ts) (hs : nm.length ≤ 1000000 ∧ ot.length ≤ 1000000 ∧ nu.length ≤ 1000000 ∧ va.length ≤ 1000000 ∧ un.length ≤ 1000000) (T : WrT w) (hu : un ≠ []) :
 Calls Tryz.prog 57 #[.agg (dcC 2 (strOf nm) (strOf ot) (strOf nu) (strOf va) (strOf un) A n c pl at1)] w fun e w' => e = .returned (.string (strOf (xz2 ([[115, 111, 117, 114, 99, 101], nm, [61], nu] ++ [brU un] ++ [[58], va] ++ [[59]]) ++ [10]))) ∧ Below w.heap.size w w' := by
 have Hsz := hid hs;obtain ⟨s1, s2, s3, s4, s5⟩ := hs;obtain ⟨NM, hNM⟩ : ∃ x : ByteArray, strOf nm = x := ⟨_, rfl⟩;rw [hNM];have zNM : NM.size ≤ 1000000 := by rw [← hNM, xqh]; assumption
 have HNM := hid hNM;clear hNM;obtain ⟨OT, hOT⟩ : ∃ x : ByteArray, strOf ot = x := ⟨_, rfl⟩;rw [hOT];have zOT : OT.size ≤ 1000000 := by rw [← hOT, xqh]; assumption
 have HOT := hid hOT;clear hOT;obtain ⟨NU, hNU⟩ : ∃ x : ByteArray, strOf nu = x := ⟨_, rfl⟩;rw [hNU];have zNU : NU.size ≤ 1000000 := by rw [← hNU, xqh]; assumption
 have HNU := hid hNU;clear hNU;obtain ⟨VA, hVA⟩ : ∃ x : ByteArray, strOf va = x := ⟨_, rfl⟩;rw [hVA];have zVA : VA.size ≤ 1000000 := by rw [← hVA, xqh]; assumption
 have HVA := hid hVA;clear hVA;obtain ⟨UN, hUN⟩ : ∃ x : ByteArray, strOf un = x := ⟨_, rfl⟩;rw [hUN];have zUN : UN.size ≤ 1000000 := by rw [← hUN, xqh]; assumption
 have HUN := hid hUN;clear hUN;clear s1 s2 s3 s4 s5;have HM := hid hm;have bn := xqc w (.cells (dcC 2 NM OT NU VA UN A n c pl at1) 62);have h_rx := xqd w 62 (dcC 2 NM OT NU VA UN A n c pl at1);have HR := hid (h.below bn);have HT := hid (T.below bn);have HBw := hid bn;clear h bn T hm;go_enter Tryz.func57, Tryz.ntmps57
 go_upto_region 2 with fail
 generalize w.alloc (.cells (dcC 2 NM OT NU VA UN A n c pl at1) 62) = wA at *;obtain ⟨q_x, eg⟩ : ∃ g, g = w.heap.size := ⟨_, rfl⟩;rw [← eg] at h_rx ⊢;clear eg;have HX := hid h_rx;clear h_rx;have k0 := HX.out.cell (k := 0) (v := .int .i64 2) rfl;obtain ⟨R, hR⟩ : ∃ R : ByteArray, strOf (91 :: (un ++ [93])) = R := ⟨_, rfl⟩;have HR8 : Hid (strOf (brU un) = R) := hR;have HRb : Hid (strOf (91 :: (bytesOf UN ++ [93])) = R) := by show _ = _; rw [← HUN.out, xqk hbu, hR]
 clear hR;obtain ⟨hne, hne2⟩ := str_some (u := UN) (by rw [← HUN.out, xqh]; intro e; exact hu (List.eq_nil_of_length_eq_zero e));have x1 := HX.out.cell (k := 1) (v := .string NM) rfl;have x3 := HX.out.cell (k := 3) (v := .string NU) rfl;have hY := xqd wA 9 #[.string ⟨#[115, 111, 117, 114, 99, 101]⟩, .string NM, .string ⟨#[61]⟩, .string NU];have bn := xqc wA (.cells #[.string ⟨#[115, 111, 117, 114, 99, 101]⟩, .string NM, .string ⟨#[61]⟩, .string NU] 9);have HB := hid bn;have HO : Hid (OwnR (wA.alloc (.cells #[.string ⟨#[115, 111, 117, 114, 99, 101]⟩, .string NM, .string ⟨#[61]⟩, .string NU] 9)) wA.heap.size 9 1 (some ⟨wA.heap.size, 0, none⟩) 4 4 (strs ([[115, 111, 117, 114, 99, 101], nm, [61], nu]))) := by
  have := (NewS.mk hY (Nat.le_refl _)).own (n := 4) rfl (by decide);rw [show strs ([[115, 111, 117, 114, 99, 101], nm, [61], nu]) = (#[.string ⟨#[115, 111, 117, 114, 99, 101]⟩, .string NM, .string ⟨#[61]⟩, .string NU] : Array Value).toList by unfold strs; simp only [List.map_cons, List.map_nil, HNM.out, HNU.out]; rfl];exact this
 clear hY bn
 go_upto_region 7 with fail
 try dsimp only [Act.put]
 generalize wA.alloc (.cells #[.string ⟨#[115, 111, 117, 114, 99, 101]⟩, .string NM, .string ⟨#[61]⟩, .string NU] 9) = w0 at *;clear k0 x1 x3;obtain ⟨g0, hg0⟩ : ∃ g, g = wA.heap.size := ⟨_, rfl⟩;have HO9 : Hid (OwnR w0 wA.heap.size 9 1 (some ⟨g0, 0, none⟩) 4 4 (strs ([[115, 111, 117, 114, 99, 101], nm, [61], nu]))) := by show OwnR _ _ _ _ _ _ _ _; rw [hg0]; exact HO.out
 rw [← hg0];clear hg0 HO;have HO := HO9;clear HO9;have x5 := (HX.out.below HB.out).cell (k := 5) (v := .string UN) rfl;have bn := xqc w0 (.cells #[.string R] 9);have HOa : Hid (OwnR (w0.alloc (.cells #[.string R] 9)) wA.heap.size 9 1 (some ⟨g0, 0, none⟩) 4 4 (strs ([[115, 111, 117, 114, 99, 101], nm, [61], nu]))) := HO.out.below bn;have HYa : Hid (RowA (w0.alloc (.cells #[.string R] 9)) w0.heap.size 9 #[.string R] ∧ (#[.string R] : Array Value).size = 1 * 1 ∧ ∀ v ∈ (#[.string R] : Array Value), v.oneCell' = true) := ⟨xqd _ _ _, rfl, by simp [Value.oneCell']⟩;have HNa : Hid (4 ≤ 1000000 ∧ 1 ≤ 1000 ∧ wA.heap.size ≤ (w0.alloc (.cells #[.string R] 9)).heap.size) := ⟨by decide, by decide, Nat.le_trans HB.out.size bn.size⟩;have HBa := hid (HB.out.trans (bn.mono HB.out.size));clear bn HO;go_wp2_with (first | (go_at_call 98; refine (wBr_u UN zUN R HRb.out w0).mono ?_; rintro e wz ⟨rfl, rfl⟩) | (at_builtin; refine xqr rfl _ _ _ rfl wA.heap.size 9 1 xzc _ _ _ _ rfl HOa _ _ rfl 9 #[.string R] HYa HNa ?_));intro A1 c1 v1 how hgr;have HO : Hid (OwnR v1 wA.heap.size 9 1 A1 (4 + 1) c1 (strs ([[115, 111, 117, 114, 99, 101], nm, [61], nu] ++ [brU un]))) := by
  have := how.out;rw [show strs ([[115, 111, 117, 114, 99, 101], nm, [61], nu] ++ [brU un]) = strs ([[115, 111, 117, 114, 99, 101], nm, [61], nu]) ++ (#[.string R] : Array Value).toList by rw [xzs]; congr 1 <;> unfold strs <;> simp only [List.map_cons, List.map_nil, HR8.out] <;> rfl];exact this
 replace HB := hid (xq6 HBa.out (Nat.le_refl _) HNa.out.2.2 HOa.out hgr.out);clear how hgr HOa HYa HNa HBa x5;have x4 := (HX.out.below HB.out).cell (k := 4) (v := .string VA) rfl;have bn := xqc v1 (.cells #[.string ⟨#[58]⟩, .string VA] 9);have HOa : Hid (OwnR (v1.alloc (.cells #[.string ⟨#[58]⟩, .string VA] 9)) wA.heap.size 9 1 A1 5 c1 (strs ([[115, 111, 117, 114, 99, 101], nm, [61], nu] ++ [brU un]))) := HO.out.below bn;have HYa : Hid (RowA (v1.alloc (.cells #[.string ⟨#[58]⟩, .string VA] 9)) v1.heap.size 9 #[.string ⟨#[58]⟩, .string VA] ∧ (#[.string ⟨#[58]⟩, .string VA] : Array Value).size = 2 * 1 ∧ ∀ v ∈ (#[.string ⟨#[58]⟩, .string VA] : Array Value), v.oneCell' = true) := ⟨xqd _ _ _, rfl, by simp [Value.oneCell']⟩;have HNa : Hid (5 ≤ 1000000 ∧ 2 ≤ 1000 ∧ wA.heap.size ≤ (v1.alloc (.cells #[.string ⟨#[58]⟩, .string VA] 9)).heap.size) := ⟨by decide, by decide, Nat.le_trans HB.out.size bn.size⟩;have HBa := hid (HB.out.trans (bn.mono HB.out.size));clear bn HO;go_wp2_with (first | (at_builtin; refine xqr rfl _ _ _ rfl wA.heap.size 9 1 xzc _ _ _ _ rfl HOa _ _ rfl 9 #[.string ⟨#[58]⟩, .string VA] HYa HNa ?_));intro A2 c2 v2 how hgr;have HO : Hid (OwnR v2 wA.heap.size 9 1 A2 (5 + 2) c2 (strs ([[115, 111, 117, 114, 99, 101], nm, [61], nu] ++ [brU un] ++ [[58], va]))) := by
  have := how.out;rw [show strs ([[115, 111, 117, 114, 99, 101], nm, [61], nu] ++ [brU un] ++ [[58], va]) = strs ([[115, 111, 117, 114, 99, 101], nm, [61], nu] ++ [brU un]) ++ (#[.string ⟨#[58]⟩, .string VA] : Array Value).toList by rw [xzs]; congr 1 <;> unfold strs <;> simp only [List.map_cons, List.map_nil, HVA.out] <;> rfl];exact this
 replace HB := hid (xq6 HBa.out (Nat.le_refl _) HNa.out.2.2 HOa.out hgr.out);clear how hgr HOa HYa HNa HBa x4;have bn := xqc v2 (.cells #[.string ⟨#[59]⟩] 9);have HOa : Hid (OwnR (v2.alloc (.cells #[.string ⟨#[59]⟩] 9)) wA.heap.size 9 1 A2 7 c2 (strs ([[115, 111, 117, 114, 99, 101], nm, [61], nu] ++ [brU un] ++ [[58], va]))) := HO.out.below bn;have HYa : Hid (RowA (v2.alloc (.cells #[.string ⟨#[59]⟩] 9)) v2.heap.size 9 #[.string ⟨#[59]⟩] ∧ (#[.string ⟨#[59]⟩] : Array Value).size = 1 * 1 ∧ ∀ v ∈ (#[.string ⟨#[59]⟩] : Array Value), v.oneCell' = true) := ⟨xqd _ _ _, rfl, by simp [Value.oneCell']⟩;have HNa : Hid (7 ≤ 1000000 ∧ 1 ≤ 1000 ∧ wA.heap.size ≤ (v2.alloc (.cells #[.string ⟨#[59]⟩] 9)).heap.size) := ⟨by decide, by decide, Nat.le_trans HB.out.size bn.size⟩;have HBa := hid (HB.out.trans (bn.mono HB.out.size));clear bn HO;go_wp2_with (first | (at_builtin; refine xqr rfl _ _ _ rfl wA.heap.size 9 1 xzc _ _ _ _ rfl HOa _ _ rfl 9 #[.string ⟨#[59]⟩] HYa HNa ?_));intro A3 c3 v3 how hgr;have HO : Hid (OwnR v3 wA.heap.size 9 1 A3 (7 + 1) c3 (strs ([[115, 111, 117, 114, 99, 101], nm, [61], nu] ++ [brU un] ++ [[58], va] ++ [[59]]))) := by
  have := how.out;rw [show strs ([[115, 111, 117, 114, 99, 101], nm, [61], nu] ++ [brU un] ++ [[58], va] ++ [[59]]) = strs ([[115, 111, 117, 114, 99, 101], nm, [61], nu] ++ [brU un] ++ [[58], va]) ++ (#[.string ⟨#[59]⟩] : Array Value).toList by rw [xzs]; congr 1 <;> unfold strs <;> simp only [List.map_cons, List.map_nil] <;> rfl];exact this
 replace HB := hid (xq6 HBa.out (Nat.le_refl _) HNa.out.2.2 HOa.out hgr.out);clear how hgr HOa HYa HNa HBa ;obtain ⟨J, hJ⟩ : ∃ J : ByteArray, strOf (xz2 ([[115, 111, 117, 114, 99, 101], nm, [61], nu] ++ [brU un] ++ [[58], va] ++ [[59]])) = J := ⟨_, rfl⟩;have hJl : (xz2 ([[115, 111, 117, 114, 99, 101], nm, [61], nu] ++ [brU un] ++ [[58], va] ++ [[59]])).length ≤ 10000000000000 := by
  simp only [xz2, brU, List.cons_append, List.nil_append, List.flatMap_cons, List.flatMap_nil, List.length_append, List.length_cons, List.length_nil];have a1 := Hsz.out;omega
 have HJ := hid (zq5 (l := [[115, 111, 117, 114, 99, 101], nm, [61], nu] ++ [brU un] ++ [[58], va] ++ [[59]]) (by simp) HO.out (by simp) (by omega));have zJ : J.size ≤ 10000000000000 := by rw [← hJ, xqh]; exact hJl
 rw [hJ] at HJ;have HJe := hid hJ;clear hJ hJl HO;go_wp2_with (go_at_call 100; refine HJ.out.mono ?_);rintro e u9 ⟨rfl, b9⟩;have HB9 := hid (xqa HBw.out (HB.out.trans (b9.mono HB.out.size)));clear b9;go_wp2
 go_ret
 refine ⟨?_, HB9.out⟩;show Ending.returned (.string (J ++ ⟨#[10]⟩)) = _;rw [← HJe.out, show (⟨#[10]⟩ : ByteArray) = strOf [10] from rfl, xjh];rfl
set_option maxRecDepth 100000 in
theorem wLine3_c (nm ot nu va un : List Nat) (hbu : Bytes un) {A : Option Addr} {n c : Nat} {ts : List Nd} (pl at1 : Int) {w : World} (h : TreR w A n c ts) (hm : Mild ts) (hs : nm.length ≤ 1000000 ∧ ot.length ≤ 1000000 ∧ nu.length ≤ 1000000 ∧ va.length ≤ 1000000 ∧ un.length ≤ 1000000) (T : WrT w) :
 Calls Tryz.prog 57 #[.agg (dcC 3 (strOf nm) (strOf ot) (strOf nu) (strOf va) (strOf un) A n c pl at1)] w fun e w' => e = .returned (.string (strOf (xz2 ([[99, 111, 118], nm, ot, [61], nu] ++ [[59]]) ++ [10]))) ∧ Below w.heap.size w w' := by
 have Hsz := hid hs;obtain ⟨s1, s2, s3, s4, s5⟩ := hs;obtain ⟨NM, hNM⟩ : ∃ x : ByteArray, strOf nm = x := ⟨_, rfl⟩;rw [hNM];have zNM : NM.size ≤ 1000000 := by rw [← hNM, xqh]; assumption
 have HNM := hid hNM;clear hNM;obtain ⟨OT, hOT⟩ : ∃ x : ByteArray, strOf ot = x := ⟨_, rfl⟩;rw [hOT];have zOT : OT.size ≤ 1000000 := by rw [← hOT, xqh]; assumption
 have HOT := hid hOT;clear hOT;obtain ⟨NU, hNU⟩ : ∃ x : ByteArray, strOf nu = x := ⟨_, rfl⟩;rw [hNU];have zNU : NU.size ≤ 1000000 := by rw [← hNU, xqh]; assumption
 have HNU := hid hNU;clear hNU;obtain ⟨VA, hVA⟩ : ∃ x : ByteArray, strOf va = x := ⟨_, rfl⟩;rw [hVA];have zVA : VA.size ≤ 1000000 := by rw [← hVA, xqh]; assumption
 have HVA := hid hVA;clear hVA;obtain ⟨UN, hUN⟩ : ∃ x : ByteArray, strOf un = x := ⟨_, rfl⟩;rw [hUN];have zUN : UN.size ≤ 1000000 := by rw [← hUN, xqh]; assumption
 have HUN := hid hUN;clear hUN;clear s1 s2 s3 s4 s5;have HM := hid hm;have bn := xqc w (.cells (dcC 3 NM OT NU VA UN A n c pl at1) 62);have h_rx := xqd w 62 (dcC 3 NM OT NU VA UN A n c pl at1);have HR := hid (h.below bn);have HT := hid (T.below bn);have HBw := hid bn;clear h bn T hm;go_enter Tryz.func57, Tryz.ntmps57
 go_upto_region 2 with fail
 generalize w.alloc (.cells (dcC 3 NM OT NU VA UN A n c pl at1) 62) = wA at *;obtain ⟨q_x, eg⟩ : ∃ g, g = w.heap.size := ⟨_, rfl⟩;rw [← eg] at h_rx ⊢;clear eg;have HX := hid h_rx;clear h_rx;have k0 := HX.out.cell (k := 0) (v := .int .i64 3) rfl;have x1 := HX.out.cell (k := 1) (v := .string NM) rfl;have x2 := HX.out.cell (k := 2) (v := .string OT) rfl;have x3 := HX.out.cell (k := 3) (v := .string NU) rfl;have hY := xqd wA 9 #[.string ⟨#[99, 111, 118]⟩, .string NM, .string OT, .string ⟨#[61]⟩, .string NU];have bn := xqc wA (.cells #[.string ⟨#[99, 111, 118]⟩, .string NM, .string OT, .string ⟨#[61]⟩, .string NU] 9);have HB := hid bn;have HO : Hid (OwnR (wA.alloc (.cells #[.string ⟨#[99, 111, 118]⟩, .string NM, .string OT, .string ⟨#[61]⟩, .string NU] 9)) wA.heap.size 9 1 (some ⟨wA.heap.size, 0, none⟩) 5 5 (strs ([[99, 111, 118], nm, ot, [61], nu]))) := by
  have := (NewS.mk hY (Nat.le_refl _)).own (n := 5) rfl (by decide);rw [show strs ([[99, 111, 118], nm, ot, [61], nu]) = (#[.string ⟨#[99, 111, 118]⟩, .string NM, .string OT, .string ⟨#[61]⟩, .string NU] : Array Value).toList by unfold strs; simp only [List.map_cons, List.map_nil, HNM.out, HOT.out, HNU.out]; rfl];exact this
 clear hY bn
 go_upto_region 19 with fail
 try dsimp only [Act.put]
 generalize wA.alloc (.cells #[.string ⟨#[99, 111, 118]⟩, .string NM, .string OT, .string ⟨#[61]⟩, .string NU] 9) = w0 at *;clear k0 x1 x2 x3;obtain ⟨g0, hg0⟩ : ∃ g, g = wA.heap.size := ⟨_, rfl⟩;have HO9 : Hid (OwnR w0 wA.heap.size 9 1 (some ⟨g0, 0, none⟩) 5 5 (strs ([[99, 111, 118], nm, ot, [61], nu]))) := by show OwnR _ _ _ _ _ _ _ _; rw [hg0]; exact HO.out
 rw [← hg0];clear hg0 HO;have HO := HO9;clear HO9;have bn := xqc w0 (.cells #[.string ⟨#[59]⟩] 9);have HOa : Hid (OwnR (w0.alloc (.cells #[.string ⟨#[59]⟩] 9)) wA.heap.size 9 1 (some ⟨g0, 0, none⟩) 5 5 (strs ([[99, 111, 118], nm, ot, [61], nu]))) := HO.out.below bn;have HYa : Hid (RowA (w0.alloc (.cells #[.string ⟨#[59]⟩] 9)) w0.heap.size 9 #[.string ⟨#[59]⟩] ∧ (#[.string ⟨#[59]⟩] : Array Value).size = 1 * 1 ∧ ∀ v ∈ (#[.string ⟨#[59]⟩] : Array Value), v.oneCell' = true) := ⟨xqd _ _ _, rfl, by simp [Value.oneCell']⟩;have HNa : Hid (5 ≤ 1000000 ∧ 1 ≤ 1000 ∧ wA.heap.size ≤ (w0.alloc (.cells #[.string ⟨#[59]⟩] 9)).heap.size) := ⟨by decide, by decide, Nat.le_trans HB.out.size bn.size⟩;have HBa := hid (HB.out.trans (bn.mono HB.out.size));clear bn HO;go_wp2_with (first | (at_builtin; refine xqr rfl _ _ _ rfl wA.heap.size 9 1 xzc _ _ _ _ rfl HOa _ _ rfl 9 #[.string ⟨#[59]⟩] HYa HNa ?_));intro A1 c1 v1 how hgr;have HO : Hid (OwnR v1 wA.heap.size 9 1 A1 (5 + 1) c1 (strs ([[99, 111, 118], nm, ot, [61], nu] ++ [[59]]))) := by
  have := how.out;rw [show strs ([[99, 111, 118], nm, ot, [61], nu] ++ [[59]]) = strs ([[99, 111, 118], nm, ot, [61], nu]) ++ (#[.string ⟨#[59]⟩] : Array Value).toList by rw [xzs]; congr 1 <;> unfold strs <;> simp only [List.map_cons, List.map_nil] <;> rfl];exact this
 replace HB := hid (xq6 HBa.out (Nat.le_refl _) HNa.out.2.2 HOa.out hgr.out);clear how hgr HOa HYa HNa HBa ;obtain ⟨J, hJ⟩ : ∃ J : ByteArray, strOf (xz2 ([[99, 111, 118], nm, ot, [61], nu] ++ [[59]])) = J := ⟨_, rfl⟩;have hJl : (xz2 ([[99, 111, 118], nm, ot, [61], nu] ++ [[59]])).length ≤ 10000000000000 := by
  simp only [xz2, List.cons_append, List.nil_append, List.flatMap_cons, List.flatMap_nil, List.length_append, List.length_cons, List.length_nil];have a1 := Hsz.out;omega
 have HJ := hid (zq5 (l := [[99, 111, 118], nm, ot, [61], nu] ++ [[59]]) (by simp) HO.out (by simp) (by omega));have zJ : J.size ≤ 10000000000000 := by rw [← hJ, xqh]; exact hJl
 rw [hJ] at HJ;have HJe := hid hJ;clear hJ hJl HO;go_wp2_with (go_at_call 100; refine HJ.out.mono ?_);rintro e u9 ⟨rfl, b9⟩;have HB9 := hid (xqa HBw.out (HB.out.trans (b9.mono HB.out.size)));clear b9;go_wp2
 go_ret
 refine ⟨?_, HB9.out⟩;show Ending.returned (.string (J ++ ⟨#[10]⟩)) = _;rw [← HJe.out, show (⟨#[10]⟩ : ByteArray) = strOf [10] from rfl, xjh];rfl
set_option maxRecDepth 100000 in
theorem wLine4_c (nm ot nu va un : List Nat) (hbu : Bytes un) {A : Option Addr} {n c : Nat} {ts : List Nd} (pl at1 : Int) {w : World} (h : TreR w A n c ts) (hm : Mild ts) (hs : nm.length ≤ 1000000 ∧ ot.length ≤ 1000000 ∧ nu.length ≤ 1000000 ∧ va.length ≤ 1000000 ∧ un.length ≤ 1000000) (T : WrT w) (hg : xq5 ts = true) :
 Calls Tryz.prog 57 #[.agg (dcC 4 (strOf nm) (strOf ot) (strOf nu) (strOf va) (strOf un) A n c pl at1)] w fun e w' => e = .returned (.string (strOf (xz2 ([[108, 101, 116], nm, [61], xzz ts] ++ [[59]]) ++ [10]))) ∧ Below w.heap.size w w' := by
 obtain ⟨F, hF⟩ : ∃ F : ByteArray, strOf (xzz ts) = F := ⟨_, rfl⟩;have HF8 := hid hF;have HFs := hid (yq3 hg hm);have HG := hid hg;clear hF hg;have Hsz := hid hs;obtain ⟨s1, s2, s3, s4, s5⟩ := hs;obtain ⟨NM, hNM⟩ : ∃ x : ByteArray, strOf nm = x := ⟨_, rfl⟩;rw [hNM];have zNM : NM.size ≤ 1000000 := by rw [← hNM, xqh]; assumption
 have HNM := hid hNM;clear hNM;obtain ⟨OT, hOT⟩ : ∃ x : ByteArray, strOf ot = x := ⟨_, rfl⟩;rw [hOT];have zOT : OT.size ≤ 1000000 := by rw [← hOT, xqh]; assumption
 have HOT := hid hOT;clear hOT;obtain ⟨NU, hNU⟩ : ∃ x : ByteArray, strOf nu = x := ⟨_, rfl⟩;rw [hNU];have zNU : NU.size ≤ 1000000 := by rw [← hNU, xqh]; assumption
 have HNU := hid hNU;clear hNU;obtain ⟨VA, hVA⟩ : ∃ x : ByteArray, strOf va = x := ⟨_, rfl⟩;rw [hVA];have zVA : VA.size ≤ 1000000 := by rw [← hVA, xqh]; assumption
 have HVA := hid hVA;clear hVA;obtain ⟨UN, hUN⟩ : ∃ x : ByteArray, strOf un = x := ⟨_, rfl⟩;rw [hUN];have zUN : UN.size ≤ 1000000 := by rw [← hUN, xqh]; assumption
 have HUN := hid hUN;clear hUN;clear s1 s2 s3 s4 s5;have HM := hid hm;have bn := xqc w (.cells (dcC 4 NM OT NU VA UN A n c pl at1) 62);have h_rx := xqd w 62 (dcC 4 NM OT NU VA UN A n c pl at1);have HR := hid (h.below bn);have HT := hid (T.below bn);have HBw := hid bn;clear h bn T hm;go_enter Tryz.func57, Tryz.ntmps57
 go_upto_region 2 with fail
 generalize w.alloc (.cells (dcC 4 NM OT NU VA UN A n c pl at1) 62) = wA at *;obtain ⟨q_x, eg⟩ : ∃ g, g = w.heap.size := ⟨_, rfl⟩;rw [← eg] at h_rx ⊢;clear eg;have HX := hid h_rx;clear h_rx;have k0 := HX.out.cell (k := 0) (v := .int .i64 4) rfl;go_wp2_with fail
 refine xz7 6 1 [48, 49, 50, 51, 52, 53] ?aF2 (fun wx => Below wA.heap.size wA wx) (fun k vv wx => match k with
  | 0 => vv = .pointer (some ⟨q_x, 1, none⟩)
  | 1 => vv = .string NM
  | 2 => vv = .pointer (some ⟨q_x, 6, none⟩)
  | 3 => vv = .slice A n c
  | 4 => vv = .string F
  | _ => ∃ (e0 : Nat), vv = .slice (some ⟨e0, 0, none⟩) 4 4 ∧ NewS wA wx e0 #[.string ⟨#[108, 101, 116]⟩, .string NM, .string ⟨#[61]⟩, .string F])
  (fun k => false) (by kernel_rfl) ?haF2 rfl (by kernel_rfl) (by kernel_rfl) (fun _ _ _ _ _ h => h) ?hSb2 ?hPb2 ?hS2 ?hop2 ?hfin2
 case haF2 =>
  intro vals;simp only [xqx, List.getElem?_cons_zero, List.getElem?_cons_succ, Act.put, List.setIfInBounds_toArray, List.set_cons_zero, List.set_cons_succ];exact rfl
 case hSb2 => exact fun wx w2 hb hS => xqa hS hb
 case hPb2 =>
  intro k v wa wb hb h
  match k, h with
  | 0, h => exact h
  | 1, h => exact h
  | 2, h => exact h
  | 3, h => exact h
  | 4, h => exact h
  | _ + 5, ⟨e0, h1, g0⟩ => exact ⟨e0, h1, g0.below hb⟩
 case hS2 => exact (Below.refl _ _).drew
 case hop2 =>
  refine .cons (k := 0) ?_ (.cons (k := 1) ?_ (.cons (k := 2) ?_ (.cons (k := 3) ?_ (.cons (k := 4) ?_ (.cons (k := 5) ?_ (.nil))))))
  all_goals intro vals wr hS hd KC hK
  all_goals (show Oper.wp _ _ _ _ _ _; dsimp only)
  · go_simp;refine hK _ _ rfl (Below.refl _ _) (by first | rfl | simp) (fun h => by cases h)
  · have d0 : vals 0 = _ := hd 0 (by decide +kernel);rw [d0];have z0 := (HX.out.below hS).cell (k := 1) (v := .string NM) rfl;go_simp;refine hK _ _ rfl (Below.refl _ _) (by first | rfl | simp) (fun h => by cases h)
  · go_simp;refine hK _ _ rfl (Below.refl _ _) (by first | rfl | simp) (fun h => by cases h)
  · have d2 : vals 2 = _ := hd 2 (by decide +kernel);rw [d2];have z0 := (HX.out.below hS).cell (k := 6) (v := .slice A n c) rfl;go_simp;refine hK _ _ rfl (Below.refl _ _) (by first | rfl | simp) (fun h => by cases h)
  · have d3 : vals 3 = _ := hd 3 (by decide +kernel);rw [d3];go_simp;go_at_call 55
    with_reducible refine (yj7 (HR.out.below hS) HG.out HM.out (HT.out.below hS) F HF8.out).mono ?_
    rintro e w2 ⟨rfl, bn_r⟩;refine hK _ _ rfl bn_r rfl (fun h => by cases h)
  · have d1 : vals 1 = _ := hd 1 (by decide +kernel);have d4 : vals 4 = _ := hd 4 (by decide +kernel);rw [d1, d4];go_simp;exact hK _ _ rfl (xqc _ _) ⟨_, rfl, ⟨xqd _ _ _, hS.size⟩⟩ (fun h => by cases h)
 case hfin2 =>
  intro vals wr hS hP hne;obtain ⟨n_5_0, ez_5, h_5_0⟩ := hP 5 (by decide)
  try dsimp only
  rw [ez_5];refine wpAny_ready (rs := [6]) (by kernel_rfl) (by simp) (AllReady.cons rfl (fun KC hK => ?_) AllReady.nil);go_simp;refine hK _ _ ?_;clear hK KC;refine wpAny_done (by kernel_rfl) ?_ _;have HO : Hid (OwnR wr wA.heap.size 9 1 (some ⟨n_5_0, 0, none⟩) 4 4 (strs ([[108, 101, 116], nm, [61], xzz ts]))) := by
   have := h_5_0.own (n := 4) rfl (by decide);rw [show strs ([[108, 101, 116], nm, [61], xzz ts]) = (#[.string ⟨#[108, 101, 116]⟩, .string NM, .string ⟨#[61]⟩, .string F] : Array Value).toList by unfold strs; simp only [List.map_cons, List.map_nil, HNM.out, HF8.out]; rfl];exact this
  have HB := hid hS;clear hS hP h_5_0 ez_5 hne k0;generalize wr = w0 at *;obtain ⟨g0, hg0⟩ : ∃ g, g = n_5_0 := ⟨_, rfl⟩;rw [← hg0] at HO ⊢;clear hg0;have bn := xqc w0 (.cells #[.string ⟨#[59]⟩] 9);have HOa : Hid (OwnR (w0.alloc (.cells #[.string ⟨#[59]⟩] 9)) wA.heap.size 9 1 (some ⟨g0, 0, none⟩) 4 4 (strs ([[108, 101, 116], nm, [61], xzz ts]))) := HO.out.below bn;have HYa : Hid (RowA (w0.alloc (.cells #[.string ⟨#[59]⟩] 9)) w0.heap.size 9 #[.string ⟨#[59]⟩] ∧ (#[.string ⟨#[59]⟩] : Array Value).size = 1 * 1 ∧ ∀ v ∈ (#[.string ⟨#[59]⟩] : Array Value), v.oneCell' = true) := ⟨xqd _ _ _, rfl, by simp [Value.oneCell']⟩;have HNa : Hid (4 ≤ 1000000 ∧ 1 ≤ 1000 ∧ wA.heap.size ≤ (w0.alloc (.cells #[.string ⟨#[59]⟩] 9)).heap.size) := ⟨by decide, by decide, Nat.le_trans HB.out.size bn.size⟩;have HBa := hid (HB.out.trans (bn.mono HB.out.size));clear bn HO;go_wp2_with (first | (at_builtin; refine xqr rfl _ _ _ rfl wA.heap.size 9 1 xzc _ _ _ _ rfl HOa _ _ rfl 9 #[.string ⟨#[59]⟩] HYa HNa ?_));intro A1 c1 v1 how hgr;have HO : Hid (OwnR v1 wA.heap.size 9 1 A1 (4 + 1) c1 (strs ([[108, 101, 116], nm, [61], xzz ts] ++ [[59]]))) := by
   have := how.out;rw [show strs ([[108, 101, 116], nm, [61], xzz ts] ++ [[59]]) = strs ([[108, 101, 116], nm, [61], xzz ts]) ++ (#[.string ⟨#[59]⟩] : Array Value).toList by rw [xzs]; congr 1 <;> unfold strs <;> simp only [List.map_cons, List.map_nil] <;> rfl];exact this
  replace HB := hid (xq6 HBa.out (Nat.le_refl _) HNa.out.2.2 HOa.out hgr.out);clear how hgr HOa HYa HNa HBa ;obtain ⟨J, hJ⟩ : ∃ J : ByteArray, strOf (xz2 ([[108, 101, 116], nm, [61], xzz ts] ++ [[59]])) = J := ⟨_, rfl⟩;have hJl : (xz2 ([[108, 101, 116], nm, [61], xzz ts] ++ [[59]])).length ≤ 10000000000000 := by
   simp only [xz2, List.cons_append, List.nil_append, List.flatMap_cons, List.flatMap_nil, List.length_append, List.length_cons, List.length_nil];have a1 := Hsz.out; have a2 := HFs.out;omega
  have HJ := hid (zq5 (l := [[108, 101, 116], nm, [61], xzz ts] ++ [[59]]) (by simp) HO.out (by simp) (by omega));have zJ : J.size ≤ 10000000000000 := by rw [← hJ, xqh]; exact hJl
  rw [hJ] at HJ;have HJe := hid hJ;clear hJ hJl HO;go_wp2_with (go_at_call 100; refine HJ.out.mono ?_);rintro e u9 ⟨rfl, b9⟩;have HB9 := hid (xqa HBw.out (HB.out.trans (b9.mono HB.out.size)));clear b9;go_wp2
  go_ret
  refine ⟨?_, HB9.out⟩;show Ending.returned (.string (J ++ ⟨#[10]⟩)) = _;rw [← HJe.out, show (⟨#[10]⟩ : ByteArray) = strOf [10] from rfl, xjh];rfl
set_option maxRecDepth 100000 in
theorem wLine5n_c (nm ot nu va un : List Nat) (hbu : Bytes un) {A : Option Addr} {n c : Nat} {ts : List Nd} (pl at1 : Int) {w : World} (h : TreR w A n c ts) (hm : Mild ts) (hs : nm.length ≤ 1000000 ∧ ot.length ≤ 1000000 ∧ nu.length ≤ 1000000 ∧ va.length ≤ 1000000 ∧ un.length ≤ 1000000) (T : WrT w) (hg : xq5 ts = true) (hpl : 0 ≤ pl ∧ pl ≤ 60) (hu : un = []) :
 Calls Tryz.prog 57 #[.agg (dcC 5 (strOf nm) (strOf ot) (strOf nu) (strOf va) (strOf un) A n c pl at1)] w fun e w' => e = .returned (.string (strOf (xz2 ([[111, 117, 116, 112, 117, 116], nm, [61], xzz ts] ++ [[58], zT pl] ++ [[59]]) ++ [10]))) ∧ Below w.heap.size w w' := by
 obtain ⟨F, hF⟩ : ∃ F : ByteArray, strOf (xzz ts) = F := ⟨_, rfl⟩;have HF8 := hid hF;have HFs := hid (yq3 hg hm);have HG := hid hg;clear hF hg;obtain ⟨Z, hZ⟩ : ∃ Z : ByteArray, strOf (zT pl) = Z := ⟨_, rfl⟩;have HZ8 := hid hZ;have HZs : Hid ((zT pl).length ≤ 4) := ywx (by omega);have Hpl := hid hpl;clear hZ hpl;have Hsz := hid hs;obtain ⟨s1, s2, s3, s4, s5⟩ := hs;obtain ⟨NM, hNM⟩ : ∃ x : ByteArray, strOf nm = x := ⟨_, rfl⟩;rw [hNM];have zNM : NM.size ≤ 1000000 := by rw [← hNM, xqh]; assumption
 have HNM := hid hNM;clear hNM;obtain ⟨OT, hOT⟩ : ∃ x : ByteArray, strOf ot = x := ⟨_, rfl⟩;rw [hOT];have zOT : OT.size ≤ 1000000 := by rw [← hOT, xqh]; assumption
 have HOT := hid hOT;clear hOT;obtain ⟨NU, hNU⟩ : ∃ x : ByteArray, strOf nu = x := ⟨_, rfl⟩;rw [hNU];have zNU : NU.size ≤ 1000000 := by rw [← hNU, xqh]; assumption
 have HNU := hid hNU;clear hNU;obtain ⟨VA, hVA⟩ : ∃ x : ByteArray, strOf va = x := ⟨_, rfl⟩;rw [hVA];have zVA : VA.size ≤ 1000000 := by rw [← hVA, xqh]; assumption
 have HVA := hid hVA;clear hVA;obtain ⟨UN, hUN⟩ : ∃ x : ByteArray, strOf un = x := ⟨_, rfl⟩;rw [hUN];have zUN : UN.size ≤ 1000000 := by rw [← hUN, xqh]; assumption
 have HUN := hid hUN;clear hUN;clear s1 s2 s3 s4 s5;have HM := hid hm;have bn := xqc w (.cells (dcC 5 NM OT NU VA UN A n c pl at1) 62);have h_rx := xqd w 62 (dcC 5 NM OT NU VA UN A n c pl at1);have HR := hid (h.below bn);have HT := hid (T.below bn);have HBw := hid bn;clear h bn T hm;go_enter Tryz.func57, Tryz.ntmps57
 go_upto_region 2 with fail
 generalize w.alloc (.cells (dcC 5 NM OT NU VA UN A n c pl at1) 62) = wA at *;obtain ⟨q_x, eg⟩ : ∃ g, g = w.heap.size := ⟨_, rfl⟩;rw [← eg] at h_rx ⊢;clear eg;have HX := hid h_rx;clear h_rx;have k0 := HX.out.cell (k := 0) (v := .int .i64 5) rfl;obtain ⟨R, hR⟩ : ∃ R : ByteArray, strOf (91 :: (un ++ [93])) = R := ⟨_, rfl⟩;have HR8 : Hid (strOf (brU un) = R) := hR;have HRb : Hid (strOf (91 :: (bytesOf UN ++ [93])) = R) := by show _ = _; rw [← HUN.out, xqk hbu, hR]
 clear hR;have eUN : UN = ⟨#[]⟩ := by rw [← HUN.out, hu]; rfl
 subst eUN;go_wp2_with fail
 refine xz7 6 1 [56, 57, 58, 59, 60, 61] ?aF3 (fun wx => Below wA.heap.size wA wx) (fun k vv wx => match k with
  | 0 => vv = .pointer (some ⟨q_x, 1, none⟩)
  | 1 => vv = .string NM
  | 2 => vv = .pointer (some ⟨q_x, 6, none⟩)
  | 3 => vv = .slice A n c
  | 4 => vv = .string F
  | _ => ∃ (e0 : Nat), vv = .slice (some ⟨e0, 0, none⟩) 4 4 ∧ NewS wA wx e0 #[.string ⟨#[111, 117, 116, 112, 117, 116]⟩, .string NM, .string ⟨#[61]⟩, .string F])
  (fun k => false) (by kernel_rfl) ?haF3 rfl (by kernel_rfl) (by kernel_rfl) (fun _ _ _ _ _ h => h) ?hSb3 ?hPb3 ?hS3 ?hop3 ?hfin3
 case haF3 =>
  intro vals;simp only [xqx, List.getElem?_cons_zero, List.getElem?_cons_succ, Act.put, List.setIfInBounds_toArray, List.set_cons_zero, List.set_cons_succ];exact rfl
 case hSb3 => exact fun wx w2 hb hS => xqa hS hb
 case hPb3 =>
  intro k v wa wb hb h
  match k, h with
  | 0, h => exact h
  | 1, h => exact h
  | 2, h => exact h
  | 3, h => exact h
  | 4, h => exact h
  | _ + 5, ⟨e0, h1, g0⟩ => exact ⟨e0, h1, g0.below hb⟩
 case hS3 => exact (Below.refl _ _).drew
 case hop3 =>
  refine .cons (k := 0) ?_ (.cons (k := 1) ?_ (.cons (k := 2) ?_ (.cons (k := 3) ?_ (.cons (k := 4) ?_ (.cons (k := 5) ?_ (.nil))))))
  all_goals intro vals wr hS hd KC hK
  all_goals (show Oper.wp _ _ _ _ _ _; dsimp only)
  · go_simp;refine hK _ _ rfl (Below.refl _ _) (by first | rfl | simp) (fun h => by cases h)
  · have d0 : vals 0 = _ := hd 0 (by decide +kernel);rw [d0];have z0 := (HX.out.below hS).cell (k := 1) (v := .string NM) rfl;go_simp;refine hK _ _ rfl (Below.refl _ _) (by first | rfl | simp) (fun h => by cases h)
  · go_simp;refine hK _ _ rfl (Below.refl _ _) (by first | rfl | simp) (fun h => by cases h)
  · have d2 : vals 2 = _ := hd 2 (by decide +kernel);rw [d2];have z0 := (HX.out.below hS).cell (k := 6) (v := .slice A n c) rfl;go_simp;refine hK _ _ rfl (Below.refl _ _) (by first | rfl | simp) (fun h => by cases h)
  · have d3 : vals 3 = _ := hd 3 (by decide +kernel);rw [d3];go_simp;go_at_call 55
    with_reducible refine (yj7 (HR.out.below hS) HG.out HM.out (HT.out.below hS) F HF8.out).mono ?_
    rintro e w2 ⟨rfl, bn_r⟩;refine hK _ _ rfl bn_r rfl (fun h => by cases h)
  · have d1 : vals 1 = _ := hd 1 (by decide +kernel);have d4 : vals 4 = _ := hd 4 (by decide +kernel);rw [d1, d4];go_simp;exact hK _ _ rfl (xqc _ _) ⟨_, rfl, ⟨xqd _ _ _, hS.size⟩⟩ (fun h => by cases h)
 case hfin3 =>
  intro vals wr hS hP hne;obtain ⟨n_5_0, ez_5, h_5_0⟩ := hP 5 (by decide)
  try dsimp only
  rw [ez_5];refine wpAny_ready (rs := [6]) (by kernel_rfl) (by simp) (AllReady.cons rfl (fun KC hK => ?_) AllReady.nil);go_simp;refine hK _ _ ?_;clear hK KC;refine wpAny_done (by kernel_rfl) ?_ _;have HO : Hid (OwnR wr wA.heap.size 9 1 (some ⟨n_5_0, 0, none⟩) 4 4 (strs ([[111, 117, 116, 112, 117, 116], nm, [61], xzz ts]))) := by
   have := h_5_0.own (n := 4) rfl (by decide);rw [show strs ([[111, 117, 116, 112, 117, 116], nm, [61], xzz ts]) = (#[.string ⟨#[111, 117, 116, 112, 117, 116]⟩, .string NM, .string ⟨#[61]⟩, .string F] : Array Value).toList by unfold strs; simp only [List.map_cons, List.map_nil, HNM.out, HF8.out]; rfl];exact this
  have HB := hid hS;clear hS hP h_5_0 ez_5 hne k0;generalize wr = w0 at *;obtain ⟨g0, hg0⟩ : ∃ g, g = n_5_0 := ⟨_, rfl⟩;rw [← hg0] at HO ⊢;clear hg0;have x5 := (HX.out.below HB.out).cell (k := 5) (v := .string ⟨#[]⟩) rfl;have x7 := (HX.out.below HB.out).cell (k := 7) (v := .int .i64 pl) rfl;go_wp2_with (go_at_call 99; refine (itoaF_c pl (by have := Hpl.out; omega) w0 (HT.out.below HB.out).2.2 Z HZ8.out).mono ?_);rintro e wi ⟨rfl, bi⟩;replace HO := hid (HO.out.below bi);replace HB := hid (HB.out.trans (bi.mono HB.out.size));clear bi x5 x7;have bn := xqc wi (.cells #[.string ⟨#[58]⟩, .string Z] 9);have HOa : Hid (OwnR (wi.alloc (.cells #[.string ⟨#[58]⟩, .string Z] 9)) wA.heap.size 9 1 (some ⟨g0, 0, none⟩) 4 4 (strs ([[111, 117, 116, 112, 117, 116], nm, [61], xzz ts]))) := HO.out.below bn;have HYa : Hid (RowA (wi.alloc (.cells #[.string ⟨#[58]⟩, .string Z] 9)) wi.heap.size 9 #[.string ⟨#[58]⟩, .string Z] ∧ (#[.string ⟨#[58]⟩, .string Z] : Array Value).size = 2 * 1 ∧ ∀ v ∈ (#[.string ⟨#[58]⟩, .string Z] : Array Value), v.oneCell' = true) := ⟨xqd _ _ _, rfl, by simp [Value.oneCell']⟩;have HNa : Hid (4 ≤ 1000000 ∧ 2 ≤ 1000 ∧ wA.heap.size ≤ (wi.alloc (.cells #[.string ⟨#[58]⟩, .string Z] 9)).heap.size) := ⟨by decide, by decide, Nat.le_trans HB.out.size bn.size⟩;have HBa := hid (HB.out.trans (bn.mono HB.out.size));clear bn HO;go_wp2_with (first | (at_builtin; refine xqr rfl _ _ _ rfl wA.heap.size 9 1 xzc _ _ _ _ rfl HOa _ _ rfl 9 #[.string ⟨#[58]⟩, .string Z] HYa HNa ?_))
  intro A1 c1 v1 how hgr;have HO : Hid (OwnR v1 wA.heap.size 9 1 A1 (4 + 2) c1 (strs ([[111, 117, 116, 112, 117, 116], nm, [61], xzz ts] ++ [[58], zT pl]))) := by
   have := how.out;rw [show strs ([[111, 117, 116, 112, 117, 116], nm, [61], xzz ts] ++ [[58], zT pl]) = strs ([[111, 117, 116, 112, 117, 116], nm, [61], xzz ts]) ++ (#[.string ⟨#[58]⟩, .string Z] : Array Value).toList by rw [xzs]; congr 1 <;> unfold strs <;> simp only [List.map_cons, List.map_nil, HZ8.out] <;> rfl];exact this
  replace HB := hid (xq6 HBa.out (Nat.le_refl _) HNa.out.2.2 HOa.out hgr.out);clear how hgr HOa HYa HNa HBa ;have bn := xqc v1 (.cells #[.string ⟨#[59]⟩] 9);have HOa : Hid (OwnR (v1.alloc (.cells #[.string ⟨#[59]⟩] 9)) wA.heap.size 9 1 A1 6 c1 (strs ([[111, 117, 116, 112, 117, 116], nm, [61], xzz ts] ++ [[58], zT pl]))) := HO.out.below bn;have HYa : Hid (RowA (v1.alloc (.cells #[.string ⟨#[59]⟩] 9)) v1.heap.size 9 #[.string ⟨#[59]⟩] ∧ (#[.string ⟨#[59]⟩] : Array Value).size = 1 * 1 ∧ ∀ v ∈ (#[.string ⟨#[59]⟩] : Array Value), v.oneCell' = true) := ⟨xqd _ _ _, rfl, by simp [Value.oneCell']⟩;have HNa : Hid (6 ≤ 1000000 ∧ 1 ≤ 1000 ∧ wA.heap.size ≤ (v1.alloc (.cells #[.string ⟨#[59]⟩] 9)).heap.size) := ⟨by decide, by decide, Nat.le_trans HB.out.size bn.size⟩;have HBa := hid (HB.out.trans (bn.mono HB.out.size));clear bn HO;go_wp2_with (first | (at_builtin; refine xqr rfl _ _ _ rfl wA.heap.size 9 1 xzc _ _ _ _ rfl HOa _ _ rfl 9 #[.string ⟨#[59]⟩] HYa HNa ?_));intro A2 c2 v2 how hgr;have HO : Hid (OwnR v2 wA.heap.size 9 1 A2 (6 + 1) c2 (strs ([[111, 117, 116, 112, 117, 116], nm, [61], xzz ts] ++ [[58], zT pl] ++ [[59]]))) := by
   have := how.out;rw [show strs ([[111, 117, 116, 112, 117, 116], nm, [61], xzz ts] ++ [[58], zT pl] ++ [[59]]) = strs ([[111, 117, 116, 112, 117, 116], nm, [61], xzz ts] ++ [[58], zT pl]) ++ (#[.string ⟨#[59]⟩] : Array Value).toList by rw [xzs]; congr 1 <;> unfold strs <;> simp only [List.map_cons, List.map_nil] <;> rfl];exact this
  replace HB := hid (xq6 HBa.out (Nat.le_refl _) HNa.out.2.2 HOa.out hgr.out);clear how hgr HOa HYa HNa HBa ;obtain ⟨J, hJ⟩ : ∃ J : ByteArray, strOf (xz2 ([[111, 117, 116, 112, 117, 116], nm, [61], xzz ts] ++ [[58], zT pl] ++ [[59]])) = J := ⟨_, rfl⟩;have hJl : (xz2 ([[111, 117, 116, 112, 117, 116], nm, [61], xzz ts] ++ [[58], zT pl] ++ [[59]])).length ≤ 10000000000000 := by
   simp only [xz2, List.cons_append, List.nil_append, List.flatMap_cons, List.flatMap_nil, List.length_append, List.length_cons, List.length_nil];have a1 := Hsz.out; have a2 := HFs.out; have a3 := HZs.out;omega
  have HJ := hid (zq5 (l := [[111, 117, 116, 112, 117, 116], nm, [61], xzz ts] ++ [[58], zT pl] ++ [[59]]) (by simp) HO.out (by simp) (by omega));have zJ : J.size ≤ 10000000000000 := by rw [← hJ, xqh]; exact hJl
  rw [hJ] at HJ;have HJe := hid hJ;clear hJ hJl HO;go_wp2_with (go_at_call 100; refine HJ.out.mono ?_);rintro e u9 ⟨rfl, b9⟩;have HB9 := hid (xqa HBw.out (HB.out.trans (b9.mono HB.out.size)));clear b9;go_wp2
  go_ret
  refine ⟨?_, HB9.out⟩;show Ending.returned (.string (J ++ ⟨#[10]⟩)) = _;rw [← HJe.out, show (⟨#[10]⟩ : ByteArray) = strOf [10] from rfl, xjh];rfl
set_option maxRecDepth 100000 in
theorem wLine5u_c (nm ot nu va un : List Nat) (hbu : Bytes un) {A : Option Addr} {n c : Nat} {ts : List Nd} (pl at1 : Int) {w : World} (h : TreR w A n c ts) (hm : Mild ts) (hs : nm.length ≤ 1000000 ∧ ot.length ≤ 1000000 ∧ nu.length ≤ 1000000 ∧ va.length ≤ 1000000 ∧ un.length ≤ 1000000) (T : WrT w) (hg : xq5 ts = true) (hpl : 0 ≤ pl ∧ pl ≤ 60) (hu : un ≠ []) :
 Calls Tryz.prog 57 #[.agg (dcC 5 (strOf nm) (strOf ot) (strOf nu) (strOf va) (strOf un) A n c pl at1)] w fun e w' => e = .returned (.string (strOf (xz2 ([[111, 117, 116, 112, 117, 116], nm, [61], xzz ts] ++ [[105, 110], brU un] ++ [[58], zT pl] ++ [[59]]) ++ [10]))) ∧ Below w.heap.size w w' := by
 obtain ⟨F, hF⟩ : ∃ F : ByteArray, strOf (xzz ts) = F := ⟨_, rfl⟩;have HF8 := hid hF;have HFs := hid (yq3 hg hm);have HG := hid hg;clear hF hg;obtain ⟨Z, hZ⟩ : ∃ Z : ByteArray, strOf (zT pl) = Z := ⟨_, rfl⟩;have HZ8 := hid hZ;have HZs : Hid ((zT pl).length ≤ 4) := ywx (by omega);have Hpl := hid hpl;clear hZ hpl;have Hsz := hid hs;obtain ⟨s1, s2, s3, s4, s5⟩ := hs;obtain ⟨NM, hNM⟩ : ∃ x : ByteArray, strOf nm = x := ⟨_, rfl⟩;rw [hNM];have zNM : NM.size ≤ 1000000 := by rw [← hNM, xqh]; assumption
 have HNM := hid hNM;clear hNM;obtain ⟨OT, hOT⟩ : ∃ x : ByteArray, strOf ot = x := ⟨_, rfl⟩;rw [hOT];have zOT : OT.size ≤ 1000000 := by rw [← hOT, xqh]; assumption
 have HOT := hid hOT;clear hOT;obtain ⟨NU, hNU⟩ : ∃ x : ByteArray, strOf nu = x := ⟨_, rfl⟩;rw [hNU];have zNU : NU.size ≤ 1000000 := by rw [← hNU, xqh]; assumption
 have HNU := hid hNU;clear hNU;obtain ⟨VA, hVA⟩ : ∃ x : ByteArray, strOf va = x := ⟨_, rfl⟩;rw [hVA];have zVA : VA.size ≤ 1000000 := by rw [← hVA, xqh]; assumption
 have HVA := hid hVA;clear hVA;obtain ⟨UN, hUN⟩ : ∃ x : ByteArray, strOf un = x := ⟨_, rfl⟩;rw [hUN];have zUN : UN.size ≤ 1000000 := by rw [← hUN, xqh]; assumption
 have HUN := hid hUN;clear hUN;clear s1 s2 s3 s4 s5;have HM := hid hm;have bn := xqc w (.cells (dcC 5 NM OT NU VA UN A n c pl at1) 62);have h_rx := xqd w 62 (dcC 5 NM OT NU VA UN A n c pl at1);have HR := hid (h.below bn);have HT := hid (T.below bn);have HBw := hid bn;clear h bn T hm;go_enter Tryz.func57, Tryz.ntmps57
 go_upto_region 2 with fail
 generalize w.alloc (.cells (dcC 5 NM OT NU VA UN A n c pl at1) 62) = wA at *;obtain ⟨q_x, eg⟩ : ∃ g, g = w.heap.size := ⟨_, rfl⟩;rw [← eg] at h_rx ⊢;clear eg;have HX := hid h_rx;clear h_rx;have k0 := HX.out.cell (k := 0) (v := .int .i64 5) rfl;obtain ⟨R, hR⟩ : ∃ R : ByteArray, strOf (91 :: (un ++ [93])) = R := ⟨_, rfl⟩;have HR8 : Hid (strOf (brU un) = R) := hR;have HRb : Hid (strOf (91 :: (bytesOf UN ++ [93])) = R) := by show _ = _; rw [← HUN.out, xqk hbu, hR]
 clear hR;obtain ⟨hne, hne2⟩ := str_some (u := UN) (by rw [← HUN.out, xqh]; intro e; exact hu (List.eq_nil_of_length_eq_zero e));go_wp2_with fail
 refine xz7 6 1 [56, 57, 58, 59, 60, 61] ?aF4 (fun wx => Below wA.heap.size wA wx) (fun k vv wx => match k with
  | 0 => vv = .pointer (some ⟨q_x, 1, none⟩)
  | 1 => vv = .string NM
  | 2 => vv = .pointer (some ⟨q_x, 6, none⟩)
  | 3 => vv = .slice A n c
  | 4 => vv = .string F
  | _ => ∃ (e0 : Nat), vv = .slice (some ⟨e0, 0, none⟩) 4 4 ∧ NewS wA wx e0 #[.string ⟨#[111, 117, 116, 112, 117, 116]⟩, .string NM, .string ⟨#[61]⟩, .string F])
  (fun k => false) (by kernel_rfl) ?haF4 rfl (by kernel_rfl) (by kernel_rfl) (fun _ _ _ _ _ h => h) ?hSb4 ?hPb4 ?hS4 ?hop4 ?hfin4
 case haF4 =>
  intro vals;simp only [xqx, List.getElem?_cons_zero, List.getElem?_cons_succ, Act.put, List.setIfInBounds_toArray, List.set_cons_zero, List.set_cons_succ];exact rfl
 case hSb4 => exact fun wx w2 hb hS => xqa hS hb
 case hPb4 =>
  intro k v wa wb hb h
  match k, h with
  | 0, h => exact h
  | 1, h => exact h
  | 2, h => exact h
  | 3, h => exact h
  | 4, h => exact h
  | _ + 5, ⟨e0, h1, g0⟩ => exact ⟨e0, h1, g0.below hb⟩
 case hS4 => exact (Below.refl _ _).drew
 case hop4 =>
  refine .cons (k := 0) ?_ (.cons (k := 1) ?_ (.cons (k := 2) ?_ (.cons (k := 3) ?_ (.cons (k := 4) ?_ (.cons (k := 5) ?_ (.nil))))))
  all_goals intro vals wr hS hd KC hK
  all_goals (show Oper.wp _ _ _ _ _ _; dsimp only)
  · go_simp;refine hK _ _ rfl (Below.refl _ _) (by first | rfl | simp) (fun h => by cases h)
  · have d0 : vals 0 = _ := hd 0 (by decide +kernel);rw [d0];have z0 := (HX.out.below hS).cell (k := 1) (v := .string NM) rfl;go_simp;refine hK _ _ rfl (Below.refl _ _) (by first | rfl | simp) (fun h => by cases h)
  · go_simp;refine hK _ _ rfl (Below.refl _ _) (by first | rfl | simp) (fun h => by cases h)
  · have d2 : vals 2 = _ := hd 2 (by decide +kernel);rw [d2];have z0 := (HX.out.below hS).cell (k := 6) (v := .slice A n c) rfl;go_simp;refine hK _ _ rfl (Below.refl _ _) (by first | rfl | simp) (fun h => by cases h)
  · have d3 : vals 3 = _ := hd 3 (by decide +kernel);rw [d3];go_simp;go_at_call 55
    with_reducible refine (yj7 (HR.out.below hS) HG.out HM.out (HT.out.below hS) F HF8.out).mono ?_
    rintro e w2 ⟨rfl, bn_r⟩;refine hK _ _ rfl bn_r rfl (fun h => by cases h)
  · have d1 : vals 1 = _ := hd 1 (by decide +kernel);have d4 : vals 4 = _ := hd 4 (by decide +kernel);rw [d1, d4];go_simp;exact hK _ _ rfl (xqc _ _) ⟨_, rfl, ⟨xqd _ _ _, hS.size⟩⟩ (fun h => by cases h)
 case hfin4 =>
  intro vals wr hS hP hne;obtain ⟨n_5_0, ez_5, h_5_0⟩ := hP 5 (by decide)
  try dsimp only
  rw [ez_5];refine wpAny_ready (rs := [6]) (by kernel_rfl) (by simp) (AllReady.cons rfl (fun KC hK => ?_) AllReady.nil);go_simp;refine hK _ _ ?_;clear hK KC;refine wpAny_done (by kernel_rfl) ?_ _;have HO : Hid (OwnR wr wA.heap.size 9 1 (some ⟨n_5_0, 0, none⟩) 4 4 (strs ([[111, 117, 116, 112, 117, 116], nm, [61], xzz ts]))) := by
   have := h_5_0.own (n := 4) rfl (by decide);rw [show strs ([[111, 117, 116, 112, 117, 116], nm, [61], xzz ts]) = (#[.string ⟨#[111, 117, 116, 112, 117, 116]⟩, .string NM, .string ⟨#[61]⟩, .string F] : Array Value).toList by unfold strs; simp only [List.map_cons, List.map_nil, HNM.out, HF8.out]; rfl];exact this
  have HB := hid hS;clear hS hP h_5_0 ez_5 hne k0;generalize wr = w0 at *;obtain ⟨g0, hg0⟩ : ∃ g, g = n_5_0 := ⟨_, rfl⟩;rw [← hg0] at HO ⊢;clear hg0;have x5 := (HX.out.below HB.out).cell (k := 5) (v := .string UN) rfl;have bn := xqc w0 (.cells #[.string ⟨#[105, 110]⟩, .string R] 9);have HOa : Hid (OwnR (w0.alloc (.cells #[.string ⟨#[105, 110]⟩, .string R] 9)) wA.heap.size 9 1 (some ⟨g0, 0, none⟩) 4 4 (strs ([[111, 117, 116, 112, 117, 116], nm, [61], xzz ts]))) := HO.out.below bn;have HYa : Hid (RowA (w0.alloc (.cells #[.string ⟨#[105, 110]⟩, .string R] 9)) w0.heap.size 9 #[.string ⟨#[105, 110]⟩, .string R] ∧ (#[.string ⟨#[105, 110]⟩, .string R] : Array Value).size = 2 * 1 ∧ ∀ v ∈ (#[.string ⟨#[105, 110]⟩, .string R] : Array Value), v.oneCell' = true) := ⟨xqd _ _ _, rfl, by simp [Value.oneCell']⟩;have HNa : Hid (4 ≤ 1000000 ∧ 2 ≤ 1000 ∧ wA.heap.size ≤ (w0.alloc (.cells #[.string ⟨#[105, 110]⟩, .string R] 9)).heap.size) := ⟨by decide, by decide, Nat.le_trans HB.out.size bn.size⟩;have HBa := hid (HB.out.trans (bn.mono HB.out.size));clear bn HO;go_wp2_with (first | (go_at_call 98; refine (wBr_u UN zUN R HRb.out w0).mono ?_; rintro e wz ⟨rfl, rfl⟩) | (at_builtin; refine xqr rfl _ _ _ rfl wA.heap.size 9 1 xzc _ _ _ _ rfl HOa _ _ rfl 9 #[.string ⟨#[105, 110]⟩, .string R] HYa HNa ?_));intro A1 c1 v1 how hgr;have HO : Hid (OwnR v1 wA.heap.size 9 1 A1 (4 + 2) c1 (strs ([[111, 117, 116, 112, 117, 116], nm, [61], xzz ts] ++ [[105, 110], brU un]))) := by
   have := how.out;rw [show strs ([[111, 117, 116, 112, 117, 116], nm, [61], xzz ts] ++ [[105, 110], brU un]) = strs ([[111, 117, 116, 112, 117, 116], nm, [61], xzz ts]) ++ (#[.string ⟨#[105, 110]⟩, .string R] : Array Value).toList by rw [xzs]; congr 1 <;> unfold strs <;> simp only [List.map_cons, List.map_nil, HR8.out] <;> rfl];exact this
  replace HB := hid (xq6 HBa.out (Nat.le_refl _) HNa.out.2.2 HOa.out hgr.out);clear how hgr HOa HYa HNa HBa x5;have x7 := (HX.out.below HB.out).cell (k := 7) (v := .int .i64 pl) rfl;go_wp2_with (go_at_call 99; refine (itoaF_c pl (by have := Hpl.out; omega) v1 (HT.out.below HB.out).2.2 Z HZ8.out).mono ?_);rintro e wi ⟨rfl, bi⟩;replace HO := hid (HO.out.below bi);replace HB := hid (HB.out.trans (bi.mono HB.out.size));clear bi x7;have bn := xqc wi (.cells #[.string ⟨#[58]⟩, .string Z] 9);have HOa : Hid (OwnR (wi.alloc (.cells #[.string ⟨#[58]⟩, .string Z] 9)) wA.heap.size 9 1 A1 6 c1 (strs ([[111, 117, 116, 112, 117, 116], nm, [61], xzz ts] ++ [[105, 110], brU un]))) := HO.out.below bn;have HYa : Hid (RowA (wi.alloc (.cells #[.string ⟨#[58]⟩, .string Z] 9)) wi.heap.size 9 #[.string ⟨#[58]⟩, .string Z] ∧ (#[.string ⟨#[58]⟩, .string Z] : Array Value).size = 2 * 1 ∧ ∀ v ∈ (#[.string ⟨#[58]⟩, .string Z] : Array Value), v.oneCell' = true) := ⟨xqd _ _ _, rfl, by simp [Value.oneCell']⟩;have HNa : Hid (6 ≤ 1000000 ∧ 2 ≤ 1000 ∧ wA.heap.size ≤ (wi.alloc (.cells #[.string ⟨#[58]⟩, .string Z] 9)).heap.size) := ⟨by decide, by decide, Nat.le_trans HB.out.size bn.size⟩;have HBa := hid (HB.out.trans (bn.mono HB.out.size));clear bn HO;go_wp2_with (first | (at_builtin; refine xqr rfl _ _ _ rfl wA.heap.size 9 1 xzc _ _ _ _ rfl HOa _ _ rfl 9 #[.string ⟨#[58]⟩, .string Z] HYa HNa ?_));intro A2 c2 v2 how hgr;have HO : Hid (OwnR v2 wA.heap.size 9 1 A2 (6 + 2) c2 (strs ([[111, 117, 116, 112, 117, 116], nm, [61], xzz ts] ++ [[105, 110], brU un] ++ [[58], zT pl]))) := by
   have := how.out;rw [show strs ([[111, 117, 116, 112, 117, 116], nm, [61], xzz ts] ++ [[105, 110], brU un] ++ [[58], zT pl]) = strs ([[111, 117, 116, 112, 117, 116], nm, [61], xzz ts] ++ [[105, 110], brU un]) ++ (#[.string ⟨#[58]⟩, .string Z] : Array Value).toList by rw [xzs]; congr 1 <;> unfold strs <;> simp only [List.map_cons, List.map_nil, HZ8.out] <;> rfl];exact this
  replace HB := hid (xq6 HBa.out (Nat.le_refl _) HNa.out.2.2 HOa.out hgr.out);clear how hgr HOa HYa HNa HBa ;have bn := xqc v2 (.cells #[.string ⟨#[59]⟩] 9);have HOa : Hid (OwnR (v2.alloc (.cells #[.string ⟨#[59]⟩] 9)) wA.heap.size 9 1 A2 8 c2 (strs ([[111, 117, 116, 112, 117, 116], nm, [61], xzz ts] ++ [[105, 110], brU un] ++ [[58], zT pl]))) := HO.out.below bn;have HYa : Hid (RowA (v2.alloc (.cells #[.string ⟨#[59]⟩] 9)) v2.heap.size 9 #[.string ⟨#[59]⟩] ∧ (#[.string ⟨#[59]⟩] : Array Value).size = 1 * 1 ∧ ∀ v ∈ (#[.string ⟨#[59]⟩] : Array Value), v.oneCell' = true) := ⟨xqd _ _ _, rfl, by simp [Value.oneCell']⟩;have HNa : Hid (8 ≤ 1000000 ∧ 1 ≤ 1000 ∧ wA.heap.size ≤ (v2.alloc (.cells #[.string ⟨#[59]⟩] 9)).heap.size) := ⟨by decide, by decide, Nat.le_trans HB.out.size bn.size⟩;have HBa := hid (HB.out.trans (bn.mono HB.out.size));clear bn HO;go_wp2_with (first | (at_builtin; refine xqr rfl _ _ _ rfl wA.heap.size 9 1 xzc _ _ _ _ rfl HOa _ _ rfl 9 #[.string ⟨#[59]⟩] HYa HNa ?_));intro A3 c3 v3 how hgr;have HO : Hid (OwnR v3 wA.heap.size 9 1 A3 (8 + 1) c3 (strs ([[111, 117, 116, 112, 117, 116], nm, [61], xzz ts] ++ [[105, 110], brU un] ++ [[58], zT pl] ++ [[59]]))) := by
   have := how.out;rw [show strs ([[111, 117, 116, 112, 117, 116], nm, [61], xzz ts] ++ [[105, 110], brU un] ++ [[58], zT pl] ++ [[59]]) = strs ([[111, 117, 116, 112, 117, 116], nm, [61], xzz ts] ++ [[105, 110], brU un] ++ [[58], zT pl]) ++ (#[.string ⟨#[59]⟩] : Array Value).toList by rw [xzs]; congr 1 <;> unfold strs <;> simp only [List.map_cons, List.map_nil] <;> rfl];exact this
  replace HB := hid (xq6 HBa.out (Nat.le_refl _) HNa.out.2.2 HOa.out hgr.out);clear how hgr HOa HYa HNa HBa ;obtain ⟨J, hJ⟩ : ∃ J : ByteArray, strOf (xz2 ([[111, 117, 116, 112, 117, 116], nm, [61], xzz ts] ++ [[105, 110], brU un] ++ [[58], zT pl] ++ [[59]])) = J := ⟨_, rfl⟩;have hJl : (xz2 ([[111, 117, 116, 112, 117, 116], nm, [61], xzz ts] ++ [[105, 110], brU un] ++ [[58], zT pl] ++ [[59]])).length ≤ 10000000000000 := by
   simp only [xz2, brU, List.cons_append, List.nil_append, List.flatMap_cons, List.flatMap_nil, List.length_append, List.length_cons, List.length_nil];have a1 := Hsz.out; have a2 := HFs.out; have a3 := HZs.out;omega
  have HJ := hid (zq5 (l := [[111, 117, 116, 112, 117, 116], nm, [61], xzz ts] ++ [[105, 110], brU un] ++ [[58], zT pl] ++ [[59]]) (by simp) HO.out (by simp) (by omega));have zJ : J.size ≤ 10000000000000 := by rw [← hJ, xqh]; exact hJl
  rw [hJ] at HJ;have HJe := hid hJ;clear hJ hJl HO;go_wp2_with (go_at_call 100; refine HJ.out.mono ?_);rintro e u9 ⟨rfl, b9⟩;have HB9 := hid (xqa HBw.out (HB.out.trans (b9.mono HB.out.size)));clear b9;go_wp2
  go_ret
  refine ⟨?_, HB9.out⟩;show Ending.returned (.string (J ++ ⟨#[10]⟩)) = _;rw [← HJe.out, show (⟨#[10]⟩ : ByteArray) = strOf [10] from rfl, xjh];rfl
structure MildD (d : Dc) : Prop where
 tr : Mild d.tr
 bytes : DcB d
 sizes : d.nm.length ≤ 1000000 ∧ d.ot.length ≤ 1000000 ∧ d.nu.length ≤ 1000000 ∧ d.va.length ≤ 1000000 ∧ d.un.length ≤ 1000000
theorem wLine_c {d : Dc} (hg : goodD d = true) (hd : MildD d) {A : Option Addr} {n c : Nat} {w : World} (h : TreR w A n c d.tr) (T : WrT w) (S : ByteArray) (hS : strOf (xvc d) = S) :
 Calls Tryz.prog 57 #[.agg (dcV ⟨d, A, n, c⟩)] w fun e w' => e = .returned (.string S) ∧ Below w.heap.size w w' := by
 subst hS;rw [line_parts hg];have hg0 := hg;obtain ⟨k, nm, ot, nu, va, un, ts, pl, at1⟩ := d;obtain ⟨hm, ⟨b1, b2, b3, b4, b5⟩, hs⟩ := hd;dsimp only at hm b1 b2 b3 b4 b5 hs h;unfold goodD at hg;rw [Bool.and_eq_true] at hg;have hg := hg.2;dsimp only at hg;show Calls Tryz.prog 57 #[.agg (dcC k (strOf nm) (strOf ot) (strOf nu) (strOf va) (strOf un) A n c pl at1)] w _;unfold partsL;dsimp only;by_cases k1 : k = 1
 · subst k1;rw [if_pos rfl];exact wLine1_c nm ot nu va un b5 pl at1 h hm hs T
 · rw [if_neg k1] at hg ⊢;by_cases k2 : k = 2
   · subst k2;rw [if_pos rfl];by_cases hu : un = []
     · rw [if_pos hu, List.append_nil];exact wLine2n_c nm ot nu va un b5 pl at1 h hm hs T hu
     · rw [if_neg hu];exact wLine2u_c nm ot nu va un b5 pl at1 h hm hs T hu
   · rw [if_neg k2] at hg ⊢;by_cases k3 : k = 3
     · subst k3;rw [if_pos rfl];exact wLine3_c nm ot nu va un b5 pl at1 h hm hs T
     · rw [if_neg k3] at hg ⊢;by_cases k4 : k = 4
       · subst k4;rw [if_pos rfl] at hg ⊢;simp only [Bool.and_eq_true] at hg;exact wLine4_c nm ot nu va un b5 pl at1 h hm hs T hg.1.1.1.1.1
       · rw [if_neg k4] at hg ⊢;by_cases k5 : k = 5
         · subst k5;rw [if_pos rfl] at hg;simp only [Bool.and_eq_true, decide_eq_true_eq] at hg;by_cases hu : un = []
           · rw [if_pos hu, List.append_nil];exact wLine5n_c nm ot nu va un b5 pl at1 h hm hs T hg.1.1.1.1.1 ⟨hg.1.1.1.1.2, hg.1.1.1.2⟩ hu
           · rw [if_neg hu];exact wLine5u_c nm ot nu va un b5 pl at1 h hm hs T hg.1.1.1.1.1 ⟨hg.1.1.1.1.2, hg.1.1.1.2⟩ hu
         · rw [if_neg k5] at hg;cases hg
theorem good_kind {d : Dc} (hg : goodD d = true) : 1 ≤ d.k ∧ d.k ≤ 5 := by
 unfold goodD at hg;rw [Bool.and_eq_true] at hg;have hg := hg.2;by_cases k1 : d.k = 1
 · omega
 · by_cases k2 : d.k = 2
   · omega
   · by_cases k3 : d.k = 3
     · omega
     · by_cases k4 : d.k = 4
       · omega
       · by_cases k5 : d.k = 5
         · omega
         · rw [if_neg k1, if_neg k2, if_neg k3, if_neg k4, if_neg k5] at hg; cases hg
theorem lineL_len {d : Dc} (hg : goodD d = true) (hd : MildD d) : (xvc d).length ≤ 20000000000000 := by
 have h1 := hd.sizes;have h2 : (xzz d.tr).length ≤ 5000000000000 ∨ d.tr = [] := by
  rcases good_trD hg with h | h
  · exact .inl (yq3 h hd.tr)
  · exact .inr h
 have h3 : (xzz d.tr).length ≤ 5000000000000 := by
  rcases h2 with h | h
  · exact h
  · rw [h]; decide
 have h4 : goodD d = true := hg;have hz : d.k = 5 → (zT d.pl).length ≤ 4 := fun h5 => by
  unfold goodD at h4;rw [Bool.and_eq_true] at h4;have h6 := h4.2;rw [if_neg (by omega), if_neg (by omega), if_neg (by omega), if_neg (by omega), if_pos h5] at h6;simp only [Bool.and_eq_true, decide_eq_true_eq] at h6;exact ywx ⟨by omega, by omega⟩
 have hk : 1 ≤ d.k ∧ d.k ≤ 5 := good_kind hg;unfold xvc wrdK yzg unP inP;by_cases k1 : d.k = 1
 · simp only [k1, if_true]; split <;> simp <;> omega
 · by_cases k2 : d.k = 2
   · rw [if_neg k1, if_pos k2, if_neg k1, if_pos k2]; split <;> simp <;> omega
   · by_cases k3 : d.k = 3
     · rw [if_neg k1, if_neg k2, if_pos k3, if_neg k1, if_neg k2, if_pos k3]; simp; omega
     · by_cases k4 : d.k = 4
       · rw [if_neg k1, if_neg k2, if_neg k3, if_pos k4, if_neg k1, if_neg k2, if_neg k3, if_pos k4]; simp; omega
       · have := hz (by omega);rw [if_neg k1, if_neg k2, if_neg k3, if_neg k4, if_neg k1, if_neg k2, if_neg k3, if_neg k4]; split <;> simp <;> omega
theorem zq3 {d : Dc} (hg : goodD d = true) (hd : MildD d) : Bytes (xvc d) := by
 obtain ⟨_, ⟨b1, b2, b3, b4, b5⟩, _⟩ := hd;have ht : xq5 d.tr = true → Bytes (xzz d.tr) := fun h => txtT_bytes d.tr h
 have lit : ∀ l : List Nat, (∀ c ∈ l, c < 256) → Bytes l := fun l h => h
 have hw : Bytes (wrdK d.k) := by
  unfold wrdK
  repeat' split
  all_goals (unfold Bytes; decide)
 have hun : Bytes (unP d.un) := by
  unfold unP
  split
  · exact xjq
  · exact xqm (by decide) (xqm (by decide) (xjj b5 (xqm (by decide) xjq)))
 have hin : Bytes (inP d.un) := by
  unfold inP
  split
  · exact xjq
  · exact xqm (by decide) (xqm (by decide) (xqm (by decide) (xqm (by decide) (xqm (by decide) (xjj b5 (xqm (by decide) xjq))))))
 have hz : Bytes (zT d.pl) := zT_bytes d.pl;have hr : Bytes (yzg d) := by
  unfold goodD at hg;rw [Bool.and_eq_true] at hg;have hg := hg.2;unfold yzg
  split
  · exact xqm (by decide) (xqm (by decide) (xjj b3 hun))
  · rename_i h1
    rw [if_neg h1] at hg
    split
    · exact xqm (by decide) (xqm (by decide) (xjj b3 (xjj hun (xqm (by decide) (xqm (by decide) (xqm (by decide) b4))))))
    · rename_i h2
      rw [if_neg h2] at hg
      split
      · exact xjj b2 (xqm (by decide) (xqm (by decide) (xqm (by decide) b3)))
      · rename_i h3
        rw [if_neg h3] at hg
        split
        · rename_i h4
          rw [if_pos h4] at hg;simp only [Bool.and_eq_true] at hg;exact xqm (by decide) (xqm (by decide) (ht hg.1.1.1.1.1))
        · rename_i h4
          rw [if_neg h4] at hg
          split at hg
          · simp only [Bool.and_eq_true] at hg;exact xqm (by decide) (xqm (by decide) (xjj (ht hg.1.1.1.1.1) (xjj hin (xqm (by decide) (xqm (by decide) (xqm (by decide) hz))))))
          · cases hg
 unfold xvc;exact xjj hw (xqm (by decide) (xjj b1 (xqm (by decide) (xjj hr (xqm (by decide) (xqm (by decide) (xqm (by decide) xjq)))))))
theorem yjf {ds : List Dc} (hg : ∀ d ∈ ds, goodD d = true) (hd : ∀ d ∈ ds, MildD d) : Bytes (xja ds) := by
 intro c hc;unfold xja at hc;obtain ⟨d, h1, h2⟩ := List.mem_flatMap.1 hc;exact zq3 (hg d h1) (hd d h1) c h2
theorem lines_take {ds : List Dc} {k : Nat} {d : Dc} (h : ds[k]? = some d) : xja (ds.take (k + 1)) = xja (ds.take k) ++ xvc d := by
 unfold xja;rw [List.take_add_one, h, List.flatMap_append];show _ ++ (xvc d ++ []) = _;rw [List.append_nil]
theorem lines_le (ds : List Dc) (k : Nat) : (xja (ds.take k)).length ≤ (xja ds).length := by
 conv => rhs; rw [← List.take_append_drop k ds]
 unfold xja;rw [List.flatMap_append, List.length_append];omega
def scrW (ds : List Dc) : List Nat × Int := if 60 < ds.length ∨ ds.all goodD = false then ([], 1) else if 4000 < (xja ds).length then ([], 2) else (xja ds, 0)
set_option maxRecDepth 100000 in
theorem yq2 {w : World} {A : Option Addr} {n c : Nat} {ds : List Dc} (h : DcR w A n c ds) (hd : ∀ d ∈ ds, MildD d) (T : WrT w) (S : ByteArray) (E : Int) (hS : (strOf (scrW ds).1, (scrW ds).2) = (S, E)) :
 Calls Tryz.prog 30 #[.slice A n c] w fun e w' => e = .returned (.tuple #[.string S, .int .i64 E]) ∧ Below w.heap.size w w' := by
 have hn := h.len;obtain ⟨hc, hcm⟩ : n ≤ c ∧ c ≤ maxLen := by obtain ⟨_, _, _, a, b, _⟩ := h; exact ⟨a, b⟩
 have eq1 : maxLen = 9223372036854775807 := rfl;have H := hid h;have HD := hid hd;have HT := hid T;have HN := hid hn;have HS := hid hS;clear h hd T hn hS;by_cases hlong : 60 < n
 · have HV : Hid (S = ⟨#[]⟩ ∧ E = 1) := by
    have h1 := HS.out;unfold scrW at h1;rw [if_pos (.inl (by rw [← HN.out]; exact hlong))] at h1;injection h1 with h1 h2
    exact ⟨h1.symm, h2.symm⟩
   have e1 : (60 : Int) < (n : Int) := by omega
   go_enter Tryz.func30, Tryz.ntmps30;go_wp2
   go_ret2
   exact ⟨by rw [HV.out.1, HV.out.2]; rfl, Below.refl _ _⟩
 · have e1 : (n : Int) ≤ 60 := by omega
   go_enter Tryz.func30, Tryz.ntmps30;go_wp2
   go_loopw [14] (fun i wr => ∃ k : Nat, i = .int .i64 (k : Int) ∧ k ≤ n ∧ Hid (∀ d ∈ ds.take k, goodD d = true) ∧ Hid (Below w.heap.size w wr)) (fun i _ => n - (intOf i).toNat)
   case atStart => exact ⟨0, rfl, Nat.zero_le _, fun d hd => (by simp at hd), Below.refl _ _⟩
   case round =>
    obtain ⟨k, rfl, hk, HP, HB⟩ := hrel;by_cases hlt : k < n
    · skip
      obtain ⟨x, hx⟩ : ∃ x, ds[k]? = some x := ⟨_, List.getElem?_eq_getElem (by rw [← HN.out]; exact hlt)⟩;have HXi := hid hx;have HMx := hid (HD.out x (List.mem_of_getElem? hx));obtain ⟨g, og, A1, n1, c1, rfl, hg, hin, ht⟩ := (H.out.below HB.out).at hx;have bn := xqc wr (.cells (dcV ⟨x, A1, n1, c1⟩) 62);have HI_1 : Hid (InV wr g (og + k * 9) (dcV ⟨x, A1, n1, c1⟩)) := hin;have HI_2 : Hid (InV (wr.alloc (.cells (dcV ⟨x, A1, n1, c1⟩) 62)) wr.heap.size 0 (dcV ⟨x, A1, n1, c1⟩)) := (xqd wr 62 (dcV ⟨x, A1, n1, c1⟩)).inV;have HM_1 : Hid (xq7 Tryz.prog 62 (dcV ⟨x, A1, n1, c1⟩).size) := manyDS _;have HU_1 : Hid (xq7 Tryz.prog 62 (dcV ⟨x, A1, n1, c1⟩).size ∧ zDc.size = (dcV ⟨x, A1, n1, c1⟩).size ∧ ∀ v ∈ dcV ⟨x, A1, n1, c1⟩, v.oneCell' = true) := fitsDz _;have HTr := hid (ht.below bn);have HTb := hid ((HT.out.below HB.out).below bn);have HB2 := hid (xqa HB.out bn);clear hx hg hin ht bn HB;generalize hz : goodD x = z;have HZ := hid hz;clear hz;go_wp2_with (first | (refine xqf (by rfl) _ _ (by rfl) _ _ (by rfl) _ (by assumption) (by assumption) ?_) | (refine xqg (by rfl) _ _ _ (by rfl) _ _ _ (by rfl) (by rfl) (by assumption) ?_));refine (wGood_c HMx.out.bytes HTr.out HMx.out.tr HMx.out.sizes HTb.out.1 z HZ.out).mono ?_;rintro e w3 ⟨rfl, b3⟩;have HB3 := hid (xqa HB2.out b3);clear b3 HB2 HI_1 HI_2 HM_1 HU_1 HTr HTb;cases z
      · have HV : Hid (S = ⟨#[]⟩ ∧ E = 1) := by
         have h1 := HS.out;unfold scrW at h1
         rw [if_pos (.inr (by
          rw [List.all_eq_false]
          exact ⟨x, List.mem_of_getElem? HXi.out, by rw [HZ.out]; decide⟩))] at h1
         injection h1 with h1 h2
         exact ⟨h1.symm, h2.symm⟩
        go_wp2
        go_ret2
        exact ⟨by rw [HV.out.1, HV.out.2]; rfl, HB3.out⟩
      · have HP2 : Hid (∀ d ∈ ds.take (k + 1), goodD d = true) := by
         intro d hd;rw [List.take_add_one, HXi.out] at hd;rcases List.mem_append.1 hd with h1 | h1
         · exact HP.out d h1
         · simp at h1; rw [h1]; exact HZ.out
        clear HP;go_wp2
        go_roundw
        case rel => exact ⟨k + 1, by go_num, hlt, HP2, HB3⟩
        case measure => simp [intOf]; omega
    · obtain rfl : n = k := by omega
      have HG : Hid (∀ d ∈ ds, goodD d = true) := by
       intro d hd;refine HP.out d ?_;rw [HN.out, List.take_length]; exact hd
      clear HP;have HSc : Hid (if 4000 < (xja ds).length then S = ⟨#[]⟩ ∧ E = 2 else S = strOf (xja ds) ∧ E = 0) := by
       have h1 := HS.out;unfold scrW at h1
       rw [if_neg (by
        rintro (h2 | h2)
        · rw [← HN.out] at h2; omega
        · rw [List.all_eq_false] at h2;obtain ⟨d, h3, h4⟩ := h2
          exact h4 (HG.out d h3))] at h1
       show ite _ _ _
       split
       · rename_i h2
         rw [if_pos h2] at h1;injection h1 with h1 h2
         exact ⟨h1.symm, h2.symm⟩
       · rename_i h2
         rw [if_neg h2] at h1;injection h1 with h1 h2
         exact ⟨h1.symm, h2.symm⟩
      have bn := xqc wr (.cells #[.pointer none, .slice none 0 0] 94);have HBd0 : Hid (Bd_b (wr.alloc (.cells #[.pointer none, .slice none 0 0] 94)) w.heap.size wr.heap.size []) := ⟨_, none, 0, 0, .inl rfl, ⟨HB.out.size, xqd _ _ _, rfl, OwnR.nil _ _ _ _, by decide⟩⟩;have HB2 := hid (xqa HB.out bn);clear bn HB
      go_upto_region 10 with fail
      generalize wr.alloc (.cells #[.pointer none, .slice none 0 0] 94) = wq at *;obtain ⟨q, hq⟩ : ∃ q, q = wr.heap.size := ⟨_, rfl⟩;rw [← hq] at HBd0 ⊢;clear hq;go_wp2
      go_loopw [24] (fun i wr => ∃ k : Nat, i = .int .i64 (k : Int) ∧ k ≤ n ∧ Hid ((xja (ds.take k)).length ≤ 4000) ∧ Hid (Bd_b wr w.heap.size q (xja (ds.take k))) ∧ Hid (Below w.heap.size w wr)) (fun i _ => n - (intOf i).toNat)
      case atStart => exact ⟨0, rfl, Nat.zero_le _, Nat.zero_le _, HBd0.out, HB2.out⟩
      case round =>
       clear HBd0 HB2;obtain ⟨k, rfl, hk, HL, HBd, HB⟩ := hrel;by_cases hlt : k < n
       · skip
         obtain ⟨x, hx⟩ : ∃ x, ds[k]? = some x := ⟨_, List.getElem?_eq_getElem (by rw [← HN.out]; exact hlt)⟩;have HXi := hid hx;have HMx := hid (HD.out x (List.mem_of_getElem? hx));obtain ⟨g, og, A1, n1, c1, rfl, hg, hin, ht⟩ := (H.out.below HB.out).at hx;have bn := xqc wr (.cells (dcV ⟨x, A1, n1, c1⟩) 62);have HI_1 : Hid (InV wr g (og + k * 9) (dcV ⟨x, A1, n1, c1⟩)) := hin;have HI_2 : Hid (InV (wr.alloc (.cells (dcV ⟨x, A1, n1, c1⟩) 62)) wr.heap.size 0 (dcV ⟨x, A1, n1, c1⟩)) := (xqd wr 62 (dcV ⟨x, A1, n1, c1⟩)).inV;have HM_1 : Hid (xq7 Tryz.prog 62 (dcV ⟨x, A1, n1, c1⟩).size) := manyDS _;have HU_1 : Hid (xq7 Tryz.prog 62 (dcV ⟨x, A1, n1, c1⟩).size ∧ zDc.size = (dcV ⟨x, A1, n1, c1⟩).size ∧ ∀ v ∈ dcV ⟨x, A1, n1, c1⟩, v.oneCell' = true) := fitsDz _;have HTr := hid (ht.below bn);have HTb := hid ((HT.out.below HB.out).below bn);have HB2 := hid (xqa HB.out bn);have HBq := hid (HBd.out.below bn);have HGx := hid (HG.out x (List.mem_of_getElem? hx));clear hx hg hin ht bn HB HBd;obtain ⟨Z, hZ⟩ : ∃ Z : ByteArray, strOf (xvc x) = Z := ⟨_, rfl⟩;have HZ := hid hZ;have HZs : Hid (Z.size = (xvc x).length ∧ bytesOf Z = xvc x) := by
          rw [← hZ];exact ⟨xqh _, xqk (zq3 HGx.out HMx.out)⟩
         clear hZ;go_wp2_with (first | (refine xqf (by rfl) _ _ (by rfl) _ _ (by rfl) _ (by assumption) (by assumption) ?_) | (refine xqg (by rfl) _ _ _ (by rfl) _ _ _ (by rfl) (by rfl) (by assumption) ?_));refine (wLine_c HGx.out HMx.out HTr.out HTb.out Z HZ.out).mono ?_;rintro e w3 ⟨rfl, b3⟩;have HB3 := hid (xqa HB2.out b3);have HBq3 := hid (HBq.out.below b3);clear b3 HB2 HBq HI_1 HI_2 HM_1 HU_1 HTr HTb;go_wp2_with (go_at_call 56; refine (writeString_b HBq3.out Z (by rw [HZs.out.1]; have := HL.out; have := lineL_len HGx.out HMx.out; omega) HB3.out.size).mono ?_);rintro e w4 ⟨rfl, h4, k4⟩;rw [HZs.out.2, ← lines_take HXi.out] at h4;have HBq4 := hid h4;have HB4 := hid (HB3.out.trans (k4.low (by obtain ⟨_, _, _, _, _, hh⟩ := h4; exact hh.low) HB3.out.size));clear h4 k4 HB3 HBq3;obtain ⟨m, hm⟩ : ∃ m, (xja (ds.take (k + 1))).length = m := ⟨_, rfl⟩;have HM := hid hm;by_cases h4 : 4000 < m
         · have e4 : (4000 : Int) < (m : Int) := by omega
           have HV : Hid (S = ⟨#[]⟩ ∧ E = 2) := by
            have h1 := HSc.out;rw [if_pos (by have := lines_le ds (k + 1); omega)] at h1;exact h1
           clear hm h4;go_wp2_with (go_at_call 58; refine (lenB_b HBq4.out).mono ?_; rintro e w5 ⟨rfl, rfl⟩; rw [HM.out]);go_ret2
           exact ⟨by rw [HV.out.1, HV.out.2]; rfl, HB4.out⟩
         · have e4 : (m : Int) ≤ 4000 := by omega
           have HL2 : Hid ((xja (ds.take (k + 1))).length ≤ 4000) := by show _ ≤ _; omega
           clear hm h4 HL;go_wp2_with (go_at_call 58; refine (lenB_b HBq4.out).mono ?_; rintro e w5 ⟨rfl, rfl⟩; rw [HM.out])
           go_roundw
           case rel => exact ⟨k + 1, by go_num, hlt, HL2, HBq4, HB4⟩
           case measure => simp [intOf]; omega
       · obtain rfl : n = k := by omega
         have HV : Hid (S = strOf (xja ds) ∧ E = 0) := by
          have h1 := HSc.out;have h2 := HL.out;rw [HN.out, List.take_length] at h2;rw [if_neg (by omega)] at h1;exact h1
         have HBd2 : Hid (Bd_b wr w.heap.size q (xja ds)) := by have h1 := HBd.out; rw [HN.out, List.take_length] at h1; exact h1
         have HY := hid (yjf HG.out HD.out);go_wp2_with (go_at_call 59; refine (string_b HBd2.out HY.out HB.out.size).mono ?_);rintro e w5 ⟨rfl, b5⟩;have HB5 := hid (HB.out.trans b5);clear b5;rw [← HV.out.1];go_wp2
         go_ret2
         exact ⟨by rw [HV.out.2]; rfl, HB5.out⟩
def FTab (w : World) : Prop := PTab w ∧ BTab w ∧ P10 w
theorem FTab.below {w w' : World} (h : FTab w) (hb : Below w.heap.size w w') : FTab w' := ⟨h.1.below hb, h.2.1.below hb, h.2.2.below hb⟩
theorem FTab.wr {w : World} (h : FTab w) : WrT w := ⟨h.1.1, h.2.1, h.2.2⟩
theorem FTab.x {w : World} (h : FTab w) : XTab w := h.1.1
theorem xvm {W : World} {name : String} {r : List (String × DataW Unit)} (h : laidMet Tryz.prog ((name, Lib.tabData .u64 Lib.pow10Tab) :: r) W) (hg : Tryz.prog.globalNamed name = some 3) : P10 W := by
 have hT := Lib.tabIs_of_head hg (t := 195) (by kernel_rfl) Tryz.underlying195 Tryz.underlying126 (by kernel_rfl) (by kernel_rfl) h;unfold Lib.TabIs World.var? at hT;rw [hg] at hT;cases hb : W.heap[3]? with
 | none => simp [hb] at hT
 | some o =>
  cases o with
  | cells cs T fr => simp [hb] at hT; exact ⟨T, fr, by rw [hb, hT]⟩
  | _ => simp [hb] at hT
def bondsL : List (Int × Int × Int × List UInt8) := [(0, 0, 0, []), (4, 0, 0, []), (4, 0, 0, []), (1, 1, 2, [32, 43, 32]), (1, 1, 2, [32, 45, 32]), (2, 2, 3, [42]), (2, 2, 3, [47]), (3, 3, 0, []), (3, 4, 0, [])]
def bondW (p : Int × Int × Int × List UInt8) : DataW Unit := .agg [.lit (.int .i64 p.1), .lit (.int .i64 p.2.1), .lit (.int .i64 p.2.2.1), .lit (.string p.2.2.2)]
theorem cellsBd : Tryz.prog.cellsOf 153 = 4 := by kernel_rfl
theorem bonds_all : ∀ i, i < 9 → bondV i = (let p := bondsL.getD i (0, 0, 0, []); bdC p.1 p.2.1 p.2.2.1 ⟨p.2.2.2.toArray⟩) := by
 intro i hi
 match i, hi with
 | 0, _ => rfl
 | 1, _ => rfl
 | 2, _ => rfl
 | 3, _ => rfl
 | 4, _ => rfl
 | 5, _ => rfl
 | 6, _ => rfl
 | 7, _ => rfl
 | 8, _ => rfl
set_option maxRecDepth 100000 in
theorem xj6 {W : World} {name : String} {r : List (String × DataW Unit)} (h : laidMet Tryz.prog ((name, .agg (bondsL.map bondW)) :: r) W) (hg : Tryz.prog.globalNamed name = some 1) : BTab W := fun i hi => by
 obtain ⟨ps, ⟨g0, t0, cs0, f0, p0, q0, hg0, ht0, hv0, hd0, _, _⟩, _, _⟩ := h;obtain rfl := Option.some.inj (hg.symm.trans hg0);have ht : (Tryz.prog.globals[1]?).map (·.type) = some 154 := by kernel_rfl
 obtain rfl := Option.some.inj (ht.symm.trans ht0);obtain ⟨f1, d, q, hd, hel⟩ := Lib.array_elem Tryz.underlying154 hd0 i hi;rw [cellsBd] at hel;generalize hbl : bondsL.getD i (0, 0, 0, []) = p;have hp : d = bondW p := by
  rw [List.getElem?_map] at hd;rw [List.getD_eq_getElem?_getD] at hbl;cases hu : bondsL[i]? with
  | none => rw [hu] at hd; cases hd
  | some l =>
   rw [hu] at hd hbl;have hd2 : some (bondW l) = some d := hd;injection hd2 with hd2
   rw [← hd2, ← hbl]; rfl
 subst hp;obtain ⟨a, b, c, s⟩ := p;obtain ⟨cs, hcs⟩ : ∃ cs, (cs0.toList.drop (i * 4)).take 4 = cs := ⟨_, rfl⟩;rw [hcs] at hel;obtain ⟨xs, m, hx1, hx, hlen, hxl, hl⟩ := DataW.trod_struct Tryz.underlying153 hel;rw [cellsBd] at hlen;have hxl4 : xs.length = 4 := by simpa using hxl
 have hx2 : bondW (a, b, c, s) = .agg (xs.map (·.1)) := congrArg Prod.fst hx;unfold bondW at hx2;injection hx2 with hx3
 match xs, hxl4 with
 | [x0, x1, x2, x3], _ =>
  match cs, hlen with
  | [c0, c1, c2, c3], _ =>
   have h0 : DataW.trod _ Tryz.prog W 0 _ _ m 3 ((([c0, c1, c2, c3] : List Value).drop 0).take (Tryz.prog.cellsOf 3)) = some x0 := hl 0 _ rfl;have h1 : DataW.trod _ Tryz.prog W 0 _ _ m 3 ((([c0, c1, c2, c3] : List Value).drop 1).take (Tryz.prog.cellsOf 3)) = some x1 := hl 1 _ rfl;have h2 : DataW.trod _ Tryz.prog W 0 _ _ m 3 ((([c0, c1, c2, c3] : List Value).drop 2).take (Tryz.prog.cellsOf 3)) = some x2 := hl 2 _ rfl;have h3 : DataW.trod _ Tryz.prog W 0 _ _ m 9 ((([c0, c1, c2, c3] : List Value).drop 3).take (Tryz.prog.cellsOf 9)) = some x3 := hl 3 _ rfl;have ci : Tryz.prog.cellsOf 3 = 1 := by kernel_rfl
   have cs1 : Tryz.prog.cellsOf 9 = 1 := by kernel_rfl
   rw [ci] at h0 h1 h2;rw [cs1] at h3;obtain ⟨v0, e0, f0, _⟩ := DataW.trod_int Tryz.underlying3 h0;obtain ⟨v1, e1, f1, _⟩ := DataW.trod_int Tryz.underlying3 h1;obtain ⟨v2, e2, f2, _⟩ := DataW.trod_int Tryz.underlying3 h2;obtain ⟨v3, e3, f3, _⟩ := DataW.trod_string Tryz.underlying9 h3;simp at e0 e1 e2 e3;subst e0 e1 e2 e3 f0 f1 f2 f3;simp only [List.map_cons, List.map_nil, List.cons.injEq, DataW.lit.injEq, Lit.int.injEq, Lit.string.injEq, and_true, true_and] at hx3;obtain ⟨ha, hb, hc, hs⟩ := hx3;have hs2 : v3 = ⟨s.toArray⟩ := by
    obtain ⟨⟨l⟩⟩ := v3;have h9 : s = l := hs;rw [h9]
   rw [bonds_all i hi, hbl];subst ha hb hc hs2;intro j v hj;have hv : [Value.int .i64 a, .int .i64 b, .int .i64 c, .string ⟨s.toArray⟩][j]? = some v := by rw [← Array.getElem?_toList] at hj; exact hj
   rw [← hcs, List.getElem?_take] at hv
   split at hv
   · rw [List.getElem?_drop] at hv;have h4 := World.var?_cell hg0 hv0 (i * 4 + j);rw [← Array.getElem?_toList, hv] at h4;exact h4
   · cases hv
theorem DcR.elems {w : World} {A : Option Addr} {n c : Nat} {ds : List Dc} (h : DcR w A n c ds) (h0 : 0 < n) : ∃ g o, A = some ⟨g, o, none⟩ ∧ g < w.heap.size ∧ ∀ i d, ds[i]? = some d → ∃ B m k, InV w g (o + i * 9) (dcV ⟨d, B, m, k⟩) ∧ TreR w B m k d.tr := by
 obtain ⟨xs, h1, h2, h3, h4, h5, h6⟩ := h;obtain ⟨g, o, e, hg, hc⟩ := h6 h0;refine ⟨g, o, e, hg, fun i d hi => ?_⟩;subst h1;rw [List.getElem?_map] at hi;obtain ⟨x, hx, rfl⟩ := Option.map_eq_some_iff.1 hi;exact ⟨x.A, x.n, x.c, hc i x hx, h5 x (List.mem_of_getElem? hx)⟩
theorem DcR.caps {w : World} {A : Option Addr} {n c : Nat} {ds : List Dc} (h : DcR w A n c ds) : n ≤ c ∧ c ≤ maxLen := by
 obtain ⟨xs, h1, h2, h3, h4, h5, h6⟩ := h;exact ⟨h3, h4⟩
def mildB (ts : List Nd) : Bool := decide (ts.length ≤ 1000000) && ts.all fun x => decide (x.t.size ≤ 1000000) && decide (x.u.size ≤ 1000000)
theorem mild_lit {ts : List Nd} (h : mildB ts = true) : Mild ts := by
 unfold mildB at h;rw [Bool.and_eq_true, decide_eq_true_eq, List.all_eq_true] at h;refine ⟨h.1, fun x hx => ?_⟩;have := h.2 x hx;rw [Bool.and_eq_true, decide_eq_true_eq, decide_eq_true_eq] at this;exact this
def bytB (l : List Nat) : Bool := l.all fun c => decide (c < 256)
theorem zjh {l : List Nat} (h : bytB l = true) : Bytes l := fun c hc => of_decide_eq_true (List.all_eq_true.1 h c hc)
def mildDB (d : Dc) : Bool := mildB d.tr && (bytB d.nm && bytB d.ot && bytB d.nu && bytB d.va && bytB d.un) && (decide (d.nm.length ≤ 1000000) && decide (d.ot.length ≤ 1000000) && decide (d.nu.length ≤ 1000000) && decide (d.va.length ≤ 1000000) && decide (d.un.length ≤ 1000000))
theorem mildD_lit {d : Dc} (h : mildDB d = true) : MildD d := by
 unfold mildDB at h;simp only [Bool.and_eq_true, decide_eq_true_eq] at h;obtain ⟨⟨h1, ⟨⟨⟨h2, h3⟩, h4⟩, h5⟩, h6⟩, ⟨⟨⟨h7, h8⟩, h9⟩, h10⟩, h11⟩ := h;exact ⟨mild_lit h1, ⟨zjh h2, zjh h3, zjh h4, zjh h5, zjh h6⟩, h7, h8, h9, h10, h11⟩
theorem zq0 {ds : List Dc} (h : ds.all mildDB = true) : ∀ d ∈ ds, MildD d := fun d hd => mildD_lit (List.all_eq_true.1 h d hd)
def wT16 : List Nd := (frmV (xjd 4000 60 2000 64) (bytesOf ⟨#[97, 45, 40, 98, 45, 99, 41, 42, 45, 100, 94, 45, 50, 47, 40, 120, 47, 121, 41]⟩)).1
def wL16 : List Dc := (scrV (xjd 4000 60 2000 64) (bytesOf ⟨#[115, 111, 117, 114, 99, 101, 32, 120, 61, 49, 91, 109, 93, 58, 48, 59, 108, 101, 116, 32, 97, 61, 45, 40, 120, 43, 49, 32, 91, 109, 93, 41, 59, 111, 117, 116, 112, 117, 116, 32, 121, 61, 97, 58, 48, 59]⟩)).1
def wD16 : Dc := wL16.headD ⟨0, [], [], [], [], [], [], 0, 0⟩
def wN16 : Dc := ⟨9, [], [], [], [], [], [], 0, 0⟩
theorem wq1 : frmV (xjd 4000 60 2000 64) (bytesOf ⟨#[97, 45, 40, 98, 45, 99, 41, 42, 45, 100, 94, 45, 50, 47, 40, 120, 47, 121, 41]⟩) = (wT16, 0, 0) := by kernel_rfl
theorem wq2 : scrV (xjd 4000 60 2000 64) (bytesOf ⟨#[115, 111, 117, 114, 99, 101, 32, 120, 61, 49, 91, 109, 93, 58, 48, 59, 108, 101, 116, 32, 97, 61, 45, 40, 120, 43, 49, 32, 91, 109, 93, 41, 59, 111, 117, 116, 112, 117, 116, 32, 121, 61, 97, 58, 48, 59]⟩) = (wL16, 0, 0) := by kernel_rfl
theorem wq3 : xq5 wT16 = true := by kernel_rfl
theorem wq4 : strOf (frmO wT16) = ⟨#[97, 32, 45, 32, 40, 98, 32, 45, 32, 99, 41, 42, 45, 100, 94, 45, 50, 47, 40, 120, 47, 121, 41]⟩ := by kernel_rfl
theorem wq5 : (strOf (scrW wL16).1, (scrW wL16).2) = ((⟨#[115, 111, 117, 114, 99, 101, 32, 120, 32, 61, 32, 49, 32, 91, 109, 93, 32, 58, 32, 48, 32, 59, 10, 108, 101, 116, 32, 97, 32, 61, 32, 45, 40, 120, 32, 43, 32, 49, 32, 91, 109, 93, 41, 32, 59, 10, 111, 117, 116, 112, 117, 116, 32, 121, 32, 61, 32, 97, 32, 58, 32, 48, 32, 59, 10]⟩ : ByteArray), (0 : Int)) := by kernel_rfl
theorem wq6 : wL16.length = 3 := by kernel_rfl
theorem wq7 : wL16[0]? = some wD16 := by kernel_rfl
theorem wq8 : goodD wD16 = true := by kernel_rfl
theorem wq9 : samDs wL16 wL16 = true := by kernel_rfl
theorem wq10 : wL16.all mildDB = true := by kernel_rfl
theorem wq11 : mildB wT16 = true := by kernel_rfl
theorem wq12 : (strOf (scrW [wN16]).1, (scrW [wN16]).2) = ((⟨#[]⟩ : ByteArray), (1 : Int)) := by kernel_rfl
theorem DcR.single {w : World} {g : Nat} (h : RowA w g 62 (dcC 9 ⟨#[]⟩ ⟨#[]⟩ ⟨#[]⟩ ⟨#[]⟩ ⟨#[]⟩ none 0 0 0 0)) : DcR w (some ⟨g, 0, none⟩) 1 1 [wN16] := by
 refine ⟨[⟨wN16, none, 0, 0⟩], rfl, rfl, Nat.le_refl _, by unfold maxLen; omega, fun x hx => ?_, fun _ => ⟨g, 0, rfl, h.lt, fun i x hx => ?_⟩⟩
 · rw [List.mem_singleton.1 hx]; exact TreR.nil _ (Nat.zero_le _)
 · cases i with
   | zero =>
    simp at hx;subst hx;have := h.inV;rw [show 0 + 0 * 9 = 0 by rfl];exact this
   | succ i => simp at hx
theorem xvv {d : Dc} (h : goodD d = true) : MildD d := by
 obtain ⟨h1, h2, h3, h4, h5, h6⟩ := goodD_sizes h;refine ⟨?_, ?_, by omega, by omega, by omega, by omega, by omega⟩
 · rcases h6 with h6 | h6
   · rw [h6]; exact ⟨Nat.zero_le _, fun x hx => (by cases hx)⟩
   · obtain ⟨g1, g2⟩ := good_mild h6;exact ⟨by omega, fun x hx => by have := g2 x hx; omega⟩
 · have hg := h;unfold goodD at h;rw [Bool.and_eq_true, Bool.and_eq_true] at h;obtain ⟨⟨g1, g2⟩, g3⟩ := h;have bu := (yj8 g2).1;refine ⟨zq6 g1, ?_, ?_, ?_, bu⟩
   · split at g3
     · simp only [Bool.and_eq_true, decide_eq_true_eq] at g3; rw [g3.1.1.1.2]; exact xjq
     · split at g3
       · simp only [Bool.and_eq_true, decide_eq_true_eq] at g3; rw [g3.1.1.2]; exact xjq
       · split at g3
         · simp only [Bool.and_eq_true, decide_eq_true_eq] at g3; exact zq6 g3.1.1.1.1.2
         · split at g3
           · simp only [Bool.and_eq_true, decide_eq_true_eq] at g3; rw [g3.1.1.1.1.2]; exact xjq
           · split at g3
             · simp only [Bool.and_eq_true, decide_eq_true_eq] at g3; rw [g3.1.1.2]; exact xjq
             · cases g3
   · split at g3
     · simp only [Bool.and_eq_true, decide_eq_true_eq] at g3; exact yjo g3.1.1.1.1.1
     · split at g3
       · simp only [Bool.and_eq_true, decide_eq_true_eq] at g3; exact yjo g3.1.1.1.1
       · split at g3
         · simp only [Bool.and_eq_true, decide_eq_true_eq] at g3; exact yjo g3.1.1.1.1.1
         · split at g3
           · simp only [Bool.and_eq_true, decide_eq_true_eq] at g3; rw [g3.1.1.1.2]; exact xjq
           · split at g3
             · simp only [Bool.and_eq_true, decide_eq_true_eq] at g3; rw [g3.1.2]; exact xjq
             · cases g3
   · split at g3
     · simp only [Bool.and_eq_true, decide_eq_true_eq] at g3; rw [g3.1.1.2]; exact xjq
     · split at g3
       · simp only [Bool.and_eq_true, decide_eq_true_eq] at g3; exact yjo g3.1.1.1.2
       · split at g3
         · simp only [Bool.and_eq_true, decide_eq_true_eq] at g3; rw [g3.1.1.1.2]; exact xjq
         · split at g3
           · simp only [Bool.and_eq_true, decide_eq_true_eq] at g3; rw [g3.1.1.2]; exact xjq
           · split at g3
             · simp only [Bool.and_eq_true, decide_eq_true_eq] at g3; rw [g3.2]; exact xjq
             · cases g3
theorem scrW_ok {ds : List Dc} (hg : ∀ d ∈ ds, goodD d = true) (h60 : ds.length ≤ 60) : scrW ds = if 4000 < (xja ds).length then ([], 2) else (xja ds, 0) := by
 unfold scrW;rw [if_neg];rintro (h | h)
 · omega
 · rw [List.all_eq_false] at h;obtain ⟨d, h1, h2⟩ := h;exact h2 (hg d h1)
theorem once_facts {s : List Nat} (hb : Bytes s) {ds : List Dc} {P : Int} (h : scrV mostL s = (ds, 0, P)) (hw : (xja ds).length ≤ 4000) :
 ∃ es, scrV mostL (xja ds) = (es, 0, 0) ∧ es.map xj8 = ds.map xj8 ∧ (∀ d ∈ es, goodD d = true) ∧ es.length ≤ 60 ∧ xja es = xja ds := by
 obtain ⟨_, _, h3, h4, h5, _⟩ := scrV_ok yjb hb h;have hg : ∀ d ∈ ds, goodD d = true := fun d hd => (h3 d hd).1
 obtain ⟨es, E, Q, k1, k2, k3⟩ := scrV_lines hg h5 hw;have hE := k3 (scrV_dep hb h) h4;subst hE;have hB := yjf hg (fun d hd => xvv (hg d hd));obtain ⟨e1, _, e3, _, e5, _⟩ := scrV_ok yjb hB k1;subst e1;have hk : es.map xj8 = ds.map xj8 := by
  rcases k2 with k2 | k2
  · cases k2
  · exact k2.2
 exact ⟨es, k1, hk, fun d hd => (e3 d hd).1, e5, linesL_bare hk⟩
set_option maxRecDepth 100000 in
theorem yq1 (w : World) (HT0 : Hid (FTab w)) : Calls Tryz.prog 26 #[] w fun e w' => e = .returned (.bool true) ∧ Below w.heap.size w w' := by
 have bw := zqc w;go_enter Tryz.func26, Tryz.ntmps26;go_wp2_with fail
 refine (pMost_c w).mono ?_;rintro e w1 ⟨rfl, bn⟩;replace bw := xqa bw bn;clear bn;go_wp2_with fail
 refine (pFormula_c ⟨#[97, 45, 40, 98, 45, 99, 41, 42, 45, 100, 94, 45, 50, 47, 40, 120, 47, 121, 41]⟩ (by decide) (4000) (60) (2000) (64) w1 (HT0.out.below bw).1 (wT16) (0) (0) wq1).mono ?_;rintro e w2 ⟨A_t, n_t, c_t, rfl, h_tt, bn⟩;replace bw := xqa bw bn;clear bn;have HU_f := hid (fitsF (0) (0));have h_rf := xqd w2 29 (xzw (0) (0));have bn := xqc w2 (.cells (xzw (0) (0)) 29);replace h_tt := h_tt.below bn;replace bw := xqa bw bn;clear bn;go_wp2_with (refine xqg (by rfl) _ _ _ (by rfl) _ _ _ (by rfl) (by rfl) (by assumption) ?_);generalize w2.alloc (.cells (xzw (0) (0)) 29) = w3 at *;obtain ⟨q_f, eg⟩ : ∃ g, g = w2.heap.size := ⟨_, rfl⟩;rw [← eg] at h_rf ⊢;clear eg;refine (wFormula_c h_tt (mild_lit wq11) (HT0.out.below bw).wr true (wq3) ⟨#[97, 32, 45, 32, 40, 98, 32, 45, 32, 99, 41, 42, 45, 100, 94, 45, 50, 47, 40, 120, 47, 121, 41]⟩ (wq4)).mono ?_;rintro e w4 ⟨rfl, bn⟩;replace h_tt := h_tt.below bn;replace h_rf := h_rf.below bn;replace bw := xqa bw bn;clear bn;go_wp2_with fail
 refine (pMost_c w4).mono ?_;rintro e w5 ⟨rfl, bn⟩;replace h_tt := h_tt.below bn;replace h_rf := h_rf.below bn;replace bw := xqa bw bn;clear bn;go_wp2_with fail
 refine (zqq ⟨#[115, 111, 117, 114, 99, 101, 32, 120, 61, 49, 91, 109, 93, 58, 48, 59, 108, 101, 116, 32, 97, 61, 45, 40, 120, 43, 49, 32, 91, 109, 93, 41, 59, 111, 117, 116, 112, 117, 116, 32, 121, 61, 97, 58, 48, 59]⟩ (by decide) (4000) (60) (2000) (64) w5 (HT0.out.below bw).1 (wL16) (0) (0) wq2).mono ?_;rintro e w6 ⟨A_l, n_l, c_l, rfl, h_dl, bn⟩;replace h_tt := h_tt.below bn;replace h_rf := h_rf.below bn;replace bw := xqa bw bn;clear bn;have HU_g := hid (fitsF (0) (0));have h_rg := xqd w6 29 (xzw (0) (0));have bn := xqc w6 (.cells (xzw (0) (0)) 29);replace h_tt := h_tt.below bn;replace h_rf := h_rf.below bn;replace h_dl := h_dl.below bn;replace bw := xqa bw bn;clear bn;obtain rfl : n_l = 3 := h_dl.len.trans wq6;go_wp2_with (refine xqg (by rfl) _ _ _ (by rfl) _ _ _ (by rfl) (by rfl) (by assumption) ?_);generalize w6.alloc (.cells (xzw (0) (0)) 29) = w7 at *;obtain ⟨q_g, eg⟩ : ∃ g, g = w6.heap.size := ⟨_, rfl⟩;rw [← eg] at h_rg ⊢;clear eg;refine (yq2 h_dl (zq0 wq10) (HT0.out.below bw).wr ⟨#[115, 111, 117, 114, 99, 101, 32, 120, 32, 61, 32, 49, 32, 91, 109, 93, 32, 58, 32, 48, 32, 59, 10, 108, 101, 116, 32, 97, 32, 61, 32, 45, 40, 120, 32, 43, 32, 49, 32, 91, 109, 93, 41, 32, 59, 10, 111, 117, 116, 112, 117, 116, 32, 121, 32, 61, 32, 97, 32, 58, 32, 48, 32, 59, 10]⟩ 0 (wq5)).mono ?_;rintro e w8 ⟨rfl, bn⟩;replace h_tt := h_tt.below bn;replace h_rf := h_rf.below bn;replace h_dl := h_dl.below bn;replace h_rg := h_rg.below bn
 replace bw := xqa bw bn;clear bn;go_wp2_with fail
 refine (wFormula_c (TreR.nil w8 (Nat.zero_le _)) (mild_lit rfl) (HT0.out.below bw).wr false rfl ⟨#[]⟩ rfl).mono ?_;rintro e w9 ⟨rfl, bn⟩;replace h_tt := h_tt.below bn;replace h_rf := h_rf.below bn;replace h_dl := h_dl.below bn;replace h_rg := h_rg.below bn;replace bw := xqa bw bn;clear bn;have HBd : Hid (∀ W, (Instr.build 62 ([(0, .int .i64 9)] : List (Nat × Value)).toArray).run Tryz.prog W = .ok (.agg (dcC 9 ⟨#[]⟩ ⟨#[]⟩ ⟨#[]⟩ ⟨#[]⟩ ⟨#[]⟩ none 0 0 0 0)) W) := fun W => by kernel_rfl
 have h_rn := xqd w9 62 (dcC 9 ⟨#[]⟩ ⟨#[]⟩ ⟨#[]⟩ ⟨#[]⟩ ⟨#[]⟩ none 0 0 0 0);have bn := xqc w9 (.cells (dcC 9 ⟨#[]⟩ ⟨#[]⟩ ⟨#[]⟩ ⟨#[]⟩ ⟨#[]⟩ none 0 0 0 0) 62);replace h_tt := h_tt.below bn;replace h_rf := h_rf.below bn;replace h_dl := h_dl.below bn;replace h_rg := h_rg.below bn;replace bw := xqa bw bn;clear bn;have h_dn : DcR (w9.alloc (.cells (dcC 9 ⟨#[]⟩ ⟨#[]⟩ ⟨#[]⟩ ⟨#[]⟩ ⟨#[]⟩ none 0 0 0 0) 62)) (some ⟨w9.heap.size, 0, none⟩) 1 1 [wN16] := DcR.single h_rn;clear h_rn;go_wp2_with (refine xqn (by rfl) _ _ (by rfl) _ (by rfl) _ (by assumption) ?_);clear HBd;generalize w9.alloc (.cells (dcC 9 ⟨#[]⟩ ⟨#[]⟩ ⟨#[]⟩ ⟨#[]⟩ ⟨#[]⟩ none 0 0 0 0) 62) = wn at *;refine (yq2 h_dn (zq0 rfl) (HT0.out.below bw).wr ⟨#[]⟩ 1 wq12).mono ?_;rintro e wm ⟨rfl, bn⟩;clear h_dn;replace h_tt := h_tt.below bn;replace h_rf := h_rf.below bn;replace h_dl := h_dl.below bn;replace h_rg := h_rg.below bn;replace bw := xqa bw bn;clear bn;obtain ⟨hnl, hcl⟩ := h_dl.caps;obtain ⟨gl, ol, ea, hgl, hel⟩ := h_dl.elems (by decide);subst ea;obtain ⟨B0, m0, k0, i0, ht0⟩ := hel 0 wD16 wq7;have HI_0 : Hid (InV wm gl ol (dcV ⟨wD16, B0, m0, k0⟩)) := by have h := i0; rw [show ol + 0 * 9 = ol by omega] at h; exact h
 have HM_0 : Hid (xq7 Tryz.prog 62 (dcV ⟨wD16, B0, m0, k0⟩).size) := manyDS _;have eq1 : maxLen = 9223372036854775807 := rfl;have hmd := zq0 wq10 wD16 (List.mem_of_getElem? wq7);have HDL := hid h_dl;have HT9 := hid (HT0.out.below bw);have HBW := hid bw;have HTT := hid ht0;have HMD := hid hmd;clear i0 hel h_dl bw ht0 hmd hgl h_tt;have qf := h_rf.cell (k := 0) (v := .int .i64 0) rfl;have qg := h_rg.cell (k := 0) (v := .int .i64 0) rfl;clear h_rf h_rg;go_wp2_with (first | (refine xqf (by rfl) _ _ (by rfl) _ _ (by rfl) _ (by assumption) (by assumption) ?_) | (go_at_call 32; refine (wGood_c HMD.out.bytes HTT.out HMD.out.tr HMD.out.sizes HT9.out.x true wq8).mono ?_; rintro e w90 ⟨rfl, b1⟩; have HDL2 := hid (HDL.out.below b1); have HBW2 := hid (xqa HBW.out b1); clear b1) | (go_at_call 34; refine (wSame_c HDL2.out HDL2.out true wq9).mono ?_; rintro e w91 ⟨rfl, b1⟩; have HBW3 := hid (xqa HBW2.out b1); clear b1));go_ret
 exact ⟨rfl, HBW3.out⟩
end Go.Proofs.YtannifhcjcbkcaaGreatDoor
