/- For every tree, number and place that come in, TreeSame answers true and leaves its argument as it was. Conditions: the row's own (the tables of kinds read as the program lays them; what is handed in reads in the caller's memory). -/
import Derived.Test.YtbddhflmknaadaaDoorM5
import Derived.Test.YtbddhflmknaadaaDoorCards
import Derived.Test.YtbddhflmknaadaaDoorTie
import Derived.ChangeMaps5
import Derived.Lay
import Derived.SevenTiedAt
/- For every tree, number and place that come in, TreeSame answers true and leaves its argument as it was. Conditions: the row's own (the tables of kinds read as the program lays them; what is handed in reads in the caller's memory). -/
namespace Go.Proofs.YtbddhflmknaadaaDoor.lawTreeSame
open Go.ChangeShapes Go.WideShapes Go.ChangeAt Go.RowKit Limb
set_option linter.unusedVariables false
def atN (v : Int) (x : Nd) : Nd := { x with p := v }
def atL (ts : List Nd) (v : Int) (i : Nat) : List Nd := (ts.take i).map (atN v) ++ ts.drop i
theorem atL_zero (ts : List Nd) (v : Int) : atL ts v 0 = ts := by simp [atL]
theorem atL_all (ts : List Nd) (v : Int) : atL ts v ts.length = ts.map (atN v) := by simp [atL]
theorem atL_cons (x : Nd) (ts : List Nd) (v : Int) (i : Nat) : atL (x :: ts) v (i + 1) = atN v x :: atL ts v i := by simp [atL]
theorem atL_get : ∀ {ts : List Nd} {i : Nat} {x : Nd}, ts[i]? = some x → ∀ v, (atL ts v i)[i]? = some x
 | [], i, x, h, v => by simp at h
 | y :: ts, 0, x, h, v => by rw [atL_zero]; exact h
 | y :: ts, i + 1, x, h, v => by rw [atL_cons, List.getElem?_cons_succ]; exact atL_get (by simpa using h) v
theorem atL_next : ∀ {ts : List Nd} {i : Nat} {x : Nd}, ts[i]? = some x → ∀ v, (atL ts v i).set i (atN v x) = atL ts v (i + 1)
 | [], i, x, h, v => by simp at h
 | y :: ts, 0, x, h, v => by
  obtain rfl : y = x := by simpa using h
  rw [atL_cons, atL_zero, atL_zero, List.set_cons_zero]
 | y :: ts, i + 1, x, h, v => by rw [atL_cons, List.set_cons_succ, atL_next (by simpa using h) v, atL_cons]
theorem atBeg (v : Int) (ts : List Nd) : ∀ o, begF o (ts.map (atN v)) = begF o ts := by
 induction ts with
 | nil => intro o; rfl
 | cons x r ih => intro o; exact ih _
theorem atGood (v : Int) (ts : List Nd) : goodT (ts.map (atN v)) = goodT ts := by
 unfold goodT begT
 rw [atBeg, List.length_map]
theorem atMild (v : Int) {ts : List Nd} (h : Mild ts) : Mild (ts.map (atN v)) := by
 refine ⟨by rw [List.length_map]; exact h.1, fun y hy => ?_⟩
 obtain ⟨z, hz, rfl⟩ := List.mem_map.1 hy
 exact h.2 z hz
theorem atSame (v : Int) (x : Nd) : sameN x (atN v x) = true ∧ sameN (atN v x) x = true := by unfold sameN atN; simp
theorem same_at (v : Int) (ts : List Nd) : sameT ts (ts.map (atN v)) = true ∧ sameT (ts.map (atN v)) ts = true := by
 refine ⟨sameT_iff.2 ⟨by rw [List.length_map], fun i x y hx hy => ?_⟩, sameT_iff.2 ⟨by rw [List.length_map], fun i x y hx hy => ?_⟩⟩
 · rw [List.getElem?_map, hx] at hy
   obtain rfl := Option.some.inj hy
   exact (atSame v x).1
 · rw [List.getElem?_map, hy] at hx
   obtain rfl := Option.some.inj hx
   exact (atSame v y).2
theorem other_at (v : Int) {ts : List Nd} {i : Nat} {x y : Nd} (hx : ts[i]? = some x) (hy : sameN x y = false) : sameT ts ((ts.map (atN v)).set i y) = false := by
 rw [Bool.eq_false_iff]
 intro e
 have h2 := (sameT_iff.1 e).2 i x y hx (List.getElem?_set_self (by rw [List.length_map]; exact (List.getElem?_eq_some_iff.1 hx).1))
 rw [hy] at h2
 cases h2
theorem eight_fits {a b j p : Int} {t u : ByteArray} (h : fitsN ⟨8, a, b, j, t, u, p⟩ = true) : -64 ≤ j ∧ j ≤ 64 := by
 unfold fitsN at h
 rw [if_neg (show ¬ (8 : Int) = 1 by decide), if_neg (show ¬ (8 : Int) = 2 by decide), if_neg (show ¬ twoK 8 = true by decide), if_neg (show ¬ (8 : Int) = 7 by decide), if_pos rfl] at h
 simp only [Bool.and_eq_true, decide_eq_true_eq] at h
 exact ⟨h.1.2, h.2⟩
theorem text_one (t : ByteArray) : (t ++ (⟨#[49]⟩ : ByteArray)).size = t.size + 1 := by rw [ByteArray.size_append]; rfl
theorem text_ne {s t : ByteArray} (h : s.size ≠ t.size) : (s.toList == t.toList) = false ∧ ¬ t = s := by
 have h2 : ¬ t = s := fun e => h (by rw [e])
 refine ⟨?_, h2⟩
 rw [beq_eq_false_iff_ne]
 intro e
 exact h2 (by rw [ByteArray.toList_eq, ByteArray.toList_eq] at e; exact (ByteArray.ext (Array.toList_inj.1 e)).symm)
theorem wf_u8t {n : Int} (h : (Lit.int .u8 n).wf = true) : 0 ≤ n ∧ n < 256 := by
 have h1 : IntKind.u8.min = 0 := rfl
 have h2 : IntKind.u8.max = 255 := rfl
 simp only [Lit.wf, Bool.and_eq_true, decide_eq_true_eq] at h
 omega
set_option maxHeartbeats 4000000 in
set_option maxRecDepth 100000 in
theorem walk (A_s : Option Addr) (n_s c_s : Nat) (ts_s : List Nd) (v_n : Int) (v_at : Int) (w : World) (h_s : TreR w A_s n_s c_s ts_s) (f_n : (Lit.int .u8 v_n).wf = true) (f_at : (Lit.int .i64 v_at).wf = true) (HT : XTab w) :
 Calls Tryd.prog 5 #[.slice A_s n_s c_s, .int .u8 v_n, .int .i64 v_at] w fun e w' => e = .returned (.bool true) ∧ Below w.heap.size w w' := by
 have HT0 := Lib.hid HT
 clear HT
 obtain ⟨u0, u1⟩ := wf_u8t f_n
 clear f_n
 obtain ⟨N, rfl⟩ : ∃ N : Nat, v_n = (N : Int) := ⟨v_n.toNat, by omega⟩
 have hN : N ≤ 255 := by omega
 clear u0 u1
 clear f_at
 obtain ⟨lg, hlg⟩ : ∃ b, largeT ts_s = b := ⟨_, rfl⟩
 have HL := Lib.hid hlg
 have H := Lib.hid h_s
 clear hlg h_s
 go_enter Tryd.func5, Tryd.ntmps5
 go_wp2_with fail
 refine (kLarge_c H.out lg HL.out).mono ?_
 rintro e w1 ⟨rfl, bn⟩
 have HB := Lib.hid bn
 clear bn
 cases lg with
 | true =>
  go_wp2_with fail
  refine (wakes_any w1 (Lib.hid (HT0.out.below HB.out))).mono ?_
  rintro e w9 ⟨rfl, bn⟩
  have HB9 := Lib.hid (below_two HB.out bn)
  clear bn
  go_wp2
  go_ret
  exact ⟨rfl, HB9.out⟩
 | false =>
  have HM := Lib.hid (mild_small HL.out)
  obtain ⟨gd, hgd⟩ : ∃ b, goodT ts_s = b := ⟨_, rfl⟩
  have HG := Lib.hid hgd
  clear hgd
  go_wp2_with fail
  refine (rTGood_c (H.out.below HB.out) HM.out gd HG.out).mono ?_
  rintro e w2 ⟨rfl, bn⟩
  replace HB := Lib.hid (below_two HB.out bn)
  clear bn
  cases gd with
  | false =>
   go_wp2_with fail
   refine (wakes_any w2 (Lib.hid (HT0.out.below HB.out))).mono ?_
   rintro e w9 ⟨rfl, bn⟩
   have HB9 := Lib.hid (below_two HB.out bn)
   clear bn
   go_wp2
   go_ret
   exact ⟨rfl, HB9.out⟩
  | true =>
   obtain ⟨d1, d2, bs, hbe, hbl, hlow, _⟩ := good_all HG.out
   have hn := H.out.1
   have HN := Lib.hid hn
   rw [← hn] at d1 d2
   have HBe := Lib.hid hbe
   clear hn hbe hbl hlow
   obtain ⟨kx, hkx⟩ : ∃ q, N % n_s = q := ⟨_, rfl⟩
   have hkn : kx < n_s := by rw [← hkx]; exact Nat.mod_lt _ (by omega)
   have ek : (N : Int) % (n_s : Int) = (kx : Int) := by rw [← hkx]; exact (Int.natCast_emod N n_s).symm
   clear hkx
   go_wp2_with fail
   refine (kOwnT_c (H.out.below HB.out) (by omega)).mono ?_
   rintro e w3 ⟨A2, c2, rfl, hO, bn⟩
   have HSz : Hid (w.heap.size ≤ w2.heap.size) := HB.out.size
   replace HB := Lib.hid (below_two HB.out bn)
   obtain ⟨g, ea, hBg, hg3⟩ := hO.blk (by omega)
   subst ea
   have HGg : Hid (w.heap.size ≤ g) := Nat.le_trans HSz.out hBg
   have HO0 : Hid (OwnT w3 w2.heap.size (some ⟨g, 0, none⟩) n_s c2 (atL ts_s v_at 0)) := by show OwnT _ _ _ _ _ _; rw [atL_zero]; exact hO
   clear hO bn hBg hg3
   go_wp2
   go_loopw [8] (fun i wr => ∃ i0 : Nat, i = .int .i64 (i0 : Int) ∧ i0 ≤ n_s ∧ Hid (OwnT wr w2.heap.size (some ⟨g, 0, none⟩) n_s c2 (atL ts_s v_at i0)) ∧ Hid (Below w.heap.size w wr)) (fun i _ => n_s - (intOf i).toNat)
   case atStart => exact ⟨0, rfl, Nat.zero_le _, HO0, HB⟩
   case round =>
    obtain ⟨i, rfl, hi, HO, HB⟩ := hrel
    by_cases hlt : i < n_s
    · obtain ⟨x, hx⟩ : ∃ x, ts_s[i]? = some x := ⟨_, List.getElem?_eq_getElem (by rw [← HN.out]; exact hlt)⟩
      have hx2 := atL_get hx v_at
      have cN := HO.out.inV hx2 6 (.int .i64 x.p) rfl
      have fN := HO.out.free (i * 7 + 6)
      have HOn : Hid (OwnT (wr.setCell ⟨g, i * 7 + 6, none⟩ (.int .i64 v_at)) w2.heap.size (some ⟨g, 0, none⟩) n_s c2 (atL ts_s v_at (i + 1))) := by show OwnT _ _ _ _ _ _; rw [← atL_next hx v_at]; exact HO.out.set hx2 (by decide) rfl
      have HBn := Lib.hid (below_set HB.out HGg.out (i * 7 + 6) (.int .i64 v_at))
      clear hx hx2
      go_wp2
      go_roundw
      case rel => exact ⟨i + 1, by go_num, hlt, HOn, HBn⟩
      case measure => simp [intOf]; omega
    · skip
      obtain rfl : n_s = i := by omega
      have HOu : Hid (OwnT wr w2.heap.size (some ⟨g, 0, none⟩) n_s c2 ((ts_s.map (atN v_at)))) := by
       show OwnT _ _ _ _ _ _
       have h := HO.out
       rw [show atL ts_s v_at n_s = (ts_s.map (atN v_at)) by rw [HN.out]; exact atL_all ts_s v_at] at h
       exact h
      clear HO HO0
      go_wp2_with fail
      refine (tSame_c (H.out.below HB.out) HOu.out.tree true (same_at v_at ts_s).1).mono ?_
      rintro e w5 ⟨rfl, bn⟩
      replace HOu := Lib.hid (HOu.out.below bn)
      replace HB := Lib.hid (below_two HB.out bn)
      clear bn
      go_wp2_with fail
      refine (tSame_c HOu.out.tree (H.out.below HB.out) true (same_at v_at ts_s).2).mono ?_
      rintro e w6 ⟨rfl, bn⟩
      replace HOu := Lib.hid (HOu.out.below bn)
      replace HB := Lib.hid (below_two HB.out bn)
      clear bn
      go_wp2_with fail
      refine (tGood_c HOu.out.tree (atMild v_at HM.out) (HT0.out.below HB.out) true ((atGood v_at ts_s).trans HG.out)).mono ?_
      rintro e w7 ⟨rfl, bn⟩
      replace HOu := Lib.hid (HOu.out.below bn)
      replace HB := Lib.hid (below_two HB.out bn)
      clear bn
      obtain ⟨x, hx⟩ : ∃ x, ts_s[kx]? = some x := ⟨_, List.getElem?_eq_getElem (by rw [← HN.out]; exact hkn)⟩
      obtain ⟨s, hs, hol⟩ := step_at HBe.out hx
      have hcs := stepB_cases hs
      have hm := HM.out.2 x (List.mem_of_getElem? hx)
      obtain ⟨kk, a, b, j, t, u, p⟩ := x
      have hxm : (ts_s.map (atN v_at))[kx]? = some (⟨kk, a, b, j, t, u, v_at⟩ : Nd) := by rw [List.getElem?_map, hx]; rfl
      have HX := Lib.hid hx
      have HXM := Lib.hid hxm
      have c0 : w7.cell? ⟨g, kx * 7, none⟩ = some (.int .i64 kk) := HOu.out.inV hxm 0 (.int .i64 kk) rfl
      have c3 := HOu.out.inV hxm 3 (.int .i64 j) rfl
      have c4 := HOu.out.inV hxm 4 (.string t) rfl
      have f0 := HOu.out.free (kx * 7)
      have f3 := HOu.out.free (kx * 7 + 3)
      have f4 := HOu.out.free (kx * 7 + 4)
      obtain ⟨gs, os, rfl, _, _⟩ := (H.out.below HB.out).at hx
      clear hx hxm hs
      obtain ⟨hfit, hcs⟩ := hcs
      have htz : t.size ≤ 1000000 := hm.1
      clear hm
      cases hcs with
      | leaf hk _ =>
       dsimp only at hk
       rcases hk with rfl | rfl
       · skip
         obtain ⟨S, hS⟩ : ∃ S, t ++ (⟨#[49]⟩ : ByteArray) = S := ⟨_, rfl⟩
         have hSz := text_one t
         rw [hS] at hSz
         obtain ⟨n1, n3⟩ := text_ne (s := S) (t := t) (by omega)
         have HNE := Lib.hid n3
         clear n3
         have HOy : Hid (OwnT (w7.setCell ⟨g, kx * 7 + 4, none⟩ (.string S)) w2.heap.size (some ⟨g, 0, none⟩) n_s c2 ((ts_s.map (atN v_at)).set kx (⟨1, a, b, j, S, u, v_at⟩ : Nd))) := HOu.out.set (r := 4) HXM.out (by decide) rfl
         have HBy := Lib.hid (below_set HB.out HGg.out (kx * 7 + 4) (.string S))
         have HSS : Hid (sameT ts_s ((ts_s.map (atN v_at)).set kx (⟨1, a, b, j, S, u, v_at⟩ : Nd)) = false) := other_at v_at HX.out (by unfold sameN; dsimp only; simp only [Bool.and_eq_false_iff, decide_eq_false_iff_not]; exact .inl (.inr HNE.out))
         clear hfit
         go_wp2
         generalize w7.setCell ⟨g, kx * 7 + 4, none⟩ (.string S) = wT at *
         clear c0 c3 c4 f0 f3 f4
         have hyk : ((ts_s.map (atN v_at)).set kx (⟨1, a, b, j, S, u, v_at⟩ : Nd))[kx]? = some (⟨1, a, b, j, S, u, v_at⟩ : Nd) := List.getElem?_set_self (by rw [List.length_map, ← HN.out]; exact hkn)
         have y0 : wT.cell? ⟨g, kx * 7, none⟩ = some (.int .i64 1) := HOy.out.inV hyk 0 (.int .i64 1) rfl
         have y3 := HOy.out.inV hyk 3 (.int .i64 j) rfl
         have y4 := HOy.out.inV hyk 4 (.string S) rfl
         obtain ⟨g9, o9, e9, _, hin9⟩ := (H.out.below HBy.out).at HX.out
         cases e9
         have t0 : wT.cell? ⟨gs, os + kx * 7, none⟩ = some (.int .i64 1) := hin9 0 (.int .i64 1) rfl
         have t3 := hin9 3 (.int .i64 j) rfl
         have t4 := hin9 4 (.string t) rfl
         clear hin9 hyk
         have ej : (j == j) = true := beq_self_eq_true j
         go_quiet (fail)
         have bn := below_drewN (Below.refl wT.heap.size wT) nq
         have HOz := Lib.hid (HOy.out.below bn)
         have HBz := Lib.hid (below_two HBy.out bn)
         clear bn y0 y3 y4 t0 t3 t4 HOy HBy HB
         generalize wT.drewN nq = wU at *
         go_wp2_with fail
         refine (tSame_c (H.out.below HBz.out) HOz.out.tree false HSS.out).mono ?_
         rintro e w8 ⟨rfl, bn⟩
         have HB := Lib.hid (below_two HBz.out bn)
         clear bn
         go_wp2_with fail
         refine (wakes_any w8 (Lib.hid (HT0.out.below HB.out))).mono ?_
         rintro e w99 ⟨rfl, bn⟩
         have HB99 := Lib.hid (below_two HB.out bn)
         clear bn
         go_wp2
         go_ret
         exact ⟨rfl, HB99.out⟩
       · skip
         obtain ⟨S, hS⟩ : ∃ S, t ++ (⟨#[49]⟩ : ByteArray) = S := ⟨_, rfl⟩
         have hSz := text_one t
         rw [hS] at hSz
         obtain ⟨n1, n3⟩ := text_ne (s := S) (t := t) (by omega)
         have HNE := Lib.hid n3
         clear n3
         have HOy : Hid (OwnT (w7.setCell ⟨g, kx * 7 + 4, none⟩ (.string S)) w2.heap.size (some ⟨g, 0, none⟩) n_s c2 ((ts_s.map (atN v_at)).set kx (⟨2, a, b, j, S, u, v_at⟩ : Nd))) := HOu.out.set (r := 4) HXM.out (by decide) rfl
         have HBy := Lib.hid (below_set HB.out HGg.out (kx * 7 + 4) (.string S))
         have HSS : Hid (sameT ts_s ((ts_s.map (atN v_at)).set kx (⟨2, a, b, j, S, u, v_at⟩ : Nd)) = false) := other_at v_at HX.out (by unfold sameN; dsimp only; simp only [Bool.and_eq_false_iff, decide_eq_false_iff_not]; exact .inl (.inr HNE.out))
         clear hfit
         go_wp2
         generalize w7.setCell ⟨g, kx * 7 + 4, none⟩ (.string S) = wT at *
         clear c0 c3 c4 f0 f3 f4
         have hyk : ((ts_s.map (atN v_at)).set kx (⟨2, a, b, j, S, u, v_at⟩ : Nd))[kx]? = some (⟨2, a, b, j, S, u, v_at⟩ : Nd) := List.getElem?_set_self (by rw [List.length_map, ← HN.out]; exact hkn)
         have y0 : wT.cell? ⟨g, kx * 7, none⟩ = some (.int .i64 2) := HOy.out.inV hyk 0 (.int .i64 2) rfl
         have y3 := HOy.out.inV hyk 3 (.int .i64 j) rfl
         have y4 := HOy.out.inV hyk 4 (.string S) rfl
         obtain ⟨g9, o9, e9, _, hin9⟩ := (H.out.below HBy.out).at HX.out
         cases e9
         have t0 : wT.cell? ⟨gs, os + kx * 7, none⟩ = some (.int .i64 2) := hin9 0 (.int .i64 2) rfl
         have t3 := hin9 3 (.int .i64 j) rfl
         have t4 := hin9 4 (.string t) rfl
         clear hin9 hyk
         have ej : (j == j) = true := beq_self_eq_true j
         go_quiet (fail)
         have bn := below_drewN (Below.refl wT.heap.size wT) nq
         have HOz := Lib.hid (HOy.out.below bn)
         have HBz := Lib.hid (below_two HBy.out bn)
         clear bn y0 y3 y4 t0 t3 t4 HOy HBy HB
         generalize wT.drewN nq = wU at *
         go_wp2_with fail
         refine (tSame_c (H.out.below HBz.out) HOz.out.tree false HSS.out).mono ?_
         rintro e w8 ⟨rfl, bn⟩
         have HB := Lib.hid (below_two HBz.out bn)
         clear bn
         go_wp2_with fail
         refine (wakes_any w8 (Lib.hid (HT0.out.below HB.out))).mono ?_
         rintro e w99 ⟨rfl, bn⟩
         have HB99 := Lib.hid (below_two HB.out bn)
         clear bn
         go_wp2
         go_ret
         exact ⟨rfl, HB99.out⟩
      | one hk i2 ha hl _ =>
       dsimp only at hk ha
       have h78 := oneK_iff.1 hk
       clear hk ha hl
       rcases h78 with rfl | rfl
       · skip
         have HOy : Hid (OwnT (w7.setCell ⟨g, kx * 7, none⟩ (.int .i64 8)) w2.heap.size (some ⟨g, 0, none⟩) n_s c2 ((ts_s.map (atN v_at)).set kx (⟨8, a, b, j, t, u, v_at⟩ : Nd))) := HOu.out.set (r := 0) HXM.out (by decide) rfl
         have HBy := Lib.hid (below_set HB.out HGg.out (kx * 7) (.int .i64 8))
         have HSS : Hid (sameT ts_s ((ts_s.map (atN v_at)).set kx (⟨8, a, b, j, t, u, v_at⟩ : Nd)) = false) := other_at v_at HX.out (by unfold sameN; dsimp only; simp only [Bool.and_eq_false_iff, decide_eq_false_iff_not]; exact .inl (.inl (.inl (.inl (.inl (by decide))))))
         clear hfit
         go_wp2
         generalize w7.setCell ⟨g, kx * 7, none⟩ (.int .i64 8) = wT at *
         clear c0 c3 c4 f0 f3 f4
         have hyk : ((ts_s.map (atN v_at)).set kx (⟨8, a, b, j, t, u, v_at⟩ : Nd))[kx]? = some (⟨8, a, b, j, t, u, v_at⟩ : Nd) := List.getElem?_set_self (by rw [List.length_map, ← HN.out]; exact hkn)
         have y0 : wT.cell? ⟨g, kx * 7, none⟩ = some (.int .i64 8) := HOy.out.inV hyk 0 (.int .i64 8) rfl
         have y3 := HOy.out.inV hyk 3 (.int .i64 j) rfl
         have y4 := HOy.out.inV hyk 4 (.string t) rfl
         obtain ⟨g9, o9, e9, _, hin9⟩ := (H.out.below HBy.out).at HX.out
         cases e9
         have t0 : wT.cell? ⟨gs, os + kx * 7, none⟩ = some (.int .i64 7) := hin9 0 (.int .i64 7) rfl
         have t3 := hin9 3 (.int .i64 j) rfl
         have t4 := hin9 4 (.string t) rfl
         clear hin9 hyk
         go_quiet (fail)
         have bn := below_drewN (Below.refl wT.heap.size wT) nq
         have HOz := Lib.hid (HOy.out.below bn)
         have HBz := Lib.hid (below_two HBy.out bn)
         clear bn y0 y3 y4 t0 t3 t4 HOy HBy HB
         generalize wT.drewN nq = wU at *
         go_wp2_with fail
         refine (tSame_c (H.out.below HBz.out) HOz.out.tree false HSS.out).mono ?_
         rintro e w8 ⟨rfl, bn⟩
         have HB := Lib.hid (below_two HBz.out bn)
         clear bn
         go_wp2_with fail
         refine (wakes_any w8 (Lib.hid (HT0.out.below HB.out))).mono ?_
         rintro e w99 ⟨rfl, bn⟩
         have HB99 := Lib.hid (below_two HB.out bn)
         clear bn
         go_wp2
         go_ret
         exact ⟨rfl, HB99.out⟩
       · obtain ⟨j0, j1⟩ := eight_fits hfit
         have hne : ¬ j = 1 - j := by omega
         have HNE := Lib.hid hne
         clear hne
         have HOy : Hid (OwnT (w7.setCell ⟨g, kx * 7 + 3, none⟩ (.int .i64 (1 - j))) w2.heap.size (some ⟨g, 0, none⟩) n_s c2 ((ts_s.map (atN v_at)).set kx (⟨8, a, b, (1 - j), t, u, v_at⟩ : Nd))) := HOu.out.set (r := 3) HXM.out (by decide) rfl
         have HBy := Lib.hid (below_set HB.out HGg.out (kx * 7 + 3) (.int .i64 (1 - j)))
         have HSS : Hid (sameT ts_s ((ts_s.map (atN v_at)).set kx (⟨8, a, b, (1 - j), t, u, v_at⟩ : Nd)) = false) := other_at v_at HX.out (by unfold sameN; dsimp only; simp only [Bool.and_eq_false_iff, decide_eq_false_iff_not]; exact .inl (.inl (.inr HNE.out)))
         clear hfit
         go_wp2
         generalize w7.setCell ⟨g, kx * 7 + 3, none⟩ (.int .i64 (1 - j)) = wT at *
         clear c0 c3 c4 f0 f3 f4
         have hyk : ((ts_s.map (atN v_at)).set kx (⟨8, a, b, (1 - j), t, u, v_at⟩ : Nd))[kx]? = some (⟨8, a, b, (1 - j), t, u, v_at⟩ : Nd) := List.getElem?_set_self (by rw [List.length_map, ← HN.out]; exact hkn)
         have y0 : wT.cell? ⟨g, kx * 7, none⟩ = some (.int .i64 8) := HOy.out.inV hyk 0 (.int .i64 8) rfl
         have y3 := HOy.out.inV hyk 3 (.int .i64 (1 - j)) rfl
         have y4 := HOy.out.inV hyk 4 (.string t) rfl
         obtain ⟨g9, o9, e9, _, hin9⟩ := (H.out.below HBy.out).at HX.out
         cases e9
         have t0 : wT.cell? ⟨gs, os + kx * 7, none⟩ = some (.int .i64 8) := hin9 0 (.int .i64 8) rfl
         have t3 := hin9 3 (.int .i64 j) rfl
         have t4 := hin9 4 (.string t) rfl
         clear hin9 hyk
         have ej : (1 - j == j) = false := by rw [beq_eq_false_iff_ne]; have := HNE.out; omega
         go_quiet (fail)
         have bn := below_drewN (Below.refl wT.heap.size wT) nq
         have HOz := Lib.hid (HOy.out.below bn)
         have HBz := Lib.hid (below_two HBy.out bn)
         clear bn y0 y3 y4 t0 t3 t4 HOy HBy HB
         generalize wT.drewN nq = wU at *
         go_wp2_with fail
         refine (tSame_c (H.out.below HBz.out) HOz.out.tree false HSS.out).mono ?_
         rintro e w8 ⟨rfl, bn⟩
         have HB := Lib.hid (below_two HBz.out bn)
         clear bn
         go_wp2_with fail
         refine (wakes_any w8 (Lib.hid (HT0.out.below HB.out))).mono ?_
         rintro e w99 ⟨rfl, bn⟩
         have HB99 := Lib.hid (below_two HB.out bn)
         clear bn
         go_wp2
         go_ret
         exact ⟨rfl, HB99.out⟩
      | two hk b2 a2 hb hl ha hia _ =>
       dsimp only at hk ha hb
       obtain ⟨k3, k6⟩ := twoK_iff.1 hk
       clear hk ha hb hl hia
       have hne : ¬ kk = 9 - kk := by omega
       have HNE := Lib.hid hne
       clear hne
       have e1 : (kk == 1) = false := by rw [beq_eq_false_iff_ne]; omega
       have e2 : (kk == 2) = false := by rw [beq_eq_false_iff_ne]; omega
       have e7 : (kk == 7) = false := by rw [beq_eq_false_iff_ne]; omega
       have e8 : (kk == 8) = false := by rw [beq_eq_false_iff_ne]; omega
       have HOy : Hid (OwnT (w7.setCell ⟨g, kx * 7, none⟩ (.int .i64 (9 - kk))) w2.heap.size (some ⟨g, 0, none⟩) n_s c2 ((ts_s.map (atN v_at)).set kx (⟨(9 - kk), a, b, j, t, u, v_at⟩ : Nd))) := HOu.out.set (r := 0) HXM.out (by decide) rfl
       have HBy := Lib.hid (below_set HB.out HGg.out (kx * 7) (.int .i64 (9 - kk)))
       have HSS : Hid (sameT ts_s ((ts_s.map (atN v_at)).set kx (⟨(9 - kk), a, b, j, t, u, v_at⟩ : Nd)) = false) := other_at v_at HX.out (by unfold sameN; dsimp only; simp only [Bool.and_eq_false_iff, decide_eq_false_iff_not]; exact .inl (.inl (.inl (.inl (.inl HNE.out)))))
       clear hfit
       go_wp2
       generalize w7.setCell ⟨g, kx * 7, none⟩ (.int .i64 (9 - kk)) = wT at *
       clear c0 c3 c4 f0 f3 f4
       have hyk : ((ts_s.map (atN v_at)).set kx (⟨(9 - kk), a, b, j, t, u, v_at⟩ : Nd))[kx]? = some (⟨(9 - kk), a, b, j, t, u, v_at⟩ : Nd) := List.getElem?_set_self (by rw [List.length_map, ← HN.out]; exact hkn)
       have y0 : wT.cell? ⟨g, kx * 7, none⟩ = some (.int .i64 (9 - kk)) := HOy.out.inV hyk 0 (.int .i64 (9 - kk)) rfl
       have y3 := HOy.out.inV hyk 3 (.int .i64 j) rfl
       have y4 := HOy.out.inV hyk 4 (.string t) rfl
       obtain ⟨g9, o9, e9, _, hin9⟩ := (H.out.below HBy.out).at HX.out
       cases e9
       have t0 : wT.cell? ⟨gs, os + kx * 7, none⟩ = some (.int .i64 kk) := hin9 0 (.int .i64 kk) rfl
       have t3 := hin9 3 (.int .i64 j) rfl
       have t4 := hin9 4 (.string t) rfl
       clear hin9 hyk
       have ej : (9 - kk == kk) = false := by rw [beq_eq_false_iff_ne]; have := HNE.out; omega
       go_quiet (fail)
       have bn := below_drewN (Below.refl wT.heap.size wT) nq
       have HOz := Lib.hid (HOy.out.below bn)
       have HBz := Lib.hid (below_two HBy.out bn)
       clear bn y0 y3 y4 t0 t3 t4 HOy HBy HB
       generalize wT.drewN nq = wU at *
       go_wp2_with fail
       refine (tSame_c (H.out.below HBz.out) HOz.out.tree false HSS.out).mono ?_
       rintro e w8 ⟨rfl, bn⟩
       have HB := Lib.hid (below_two HBz.out bn)
       clear bn
       go_wp2_with fail
       refine (wakes_any w8 (Lib.hid (HT0.out.below HB.out))).mono ?_
       rintro e w99 ⟨rfl, bn⟩
       have HB99 := Lib.hid (below_two HB.out bn)
       clear bn
       go_wp2
       go_ret
       exact ⟨rfl, HB99.out⟩
theorem tab_of {W : World} (h : laidMet Tryd.prog Rows.treeSameRow.laid W) : XTab W := by
 refine ⟨?_, ?_⟩
 · first | exact kinds_tab (laidMet_drop 0 h) (by decide +kernel) | exact kinds_tab (laidMet_drop 1 h) (by decide +kernel) | exact kinds_tab (laidMet_drop 2 h) (by decide +kernel) | exact kinds_tab (laidMet_drop 3 h) (by decide +kernel) | exact kinds_tab (laidMet_drop 4 h) (by decide +kernel) | exact kinds_tab (laidMet_drop 5 h) (by decide +kernel) | exact kinds_tab (laidMet_drop 6 h) (by decide +kernel) | exact kinds_tab (laidMet_drop 7 h) (by decide +kernel) | exact kinds_tab (laidMet_drop 8 h) (by decide +kernel) | exact kinds_tab (laidMet_drop 9 h) (by decide +kernel) | exact kinds_tab (laidMet_drop 10 h) (by decide +kernel) | exact kinds_tab (laidMet_drop 11 h) (by decide +kernel) | exact kinds_tab (laidMet_drop 12 h) (by decide +kernel) | exact kinds_tab (laidMet_drop 13 h) (by decide +kernel)
 · first | exact lkinds_tab (laidMet_drop 0 h) (by decide +kernel) | exact lkinds_tab (laidMet_drop 1 h) (by decide +kernel) | exact lkinds_tab (laidMet_drop 2 h) (by decide +kernel) | exact lkinds_tab (laidMet_drop 3 h) (by decide +kernel) | exact lkinds_tab (laidMet_drop 4 h) (by decide +kernel) | exact lkinds_tab (laidMet_drop 5 h) (by decide +kernel) | exact lkinds_tab (laidMet_drop 6 h) (by decide +kernel) | exact lkinds_tab (laidMet_drop 7 h) (by decide +kernel) | exact lkinds_tab (laidMet_drop 8 h) (by decide +kernel) | exact lkinds_tab (laidMet_drop 9 h) (by decide +kernel) | exact lkinds_tab (laidMet_drop 10 h) (by decide +kernel) | exact lkinds_tab (laidMet_drop 11 h) (by decide +kernel) | exact lkinds_tab (laidMet_drop 12 h) (by decide +kernel) | exact lkinds_tab (laidMet_drop 13 h) (by decide +kernel)
set_option maxRecDepth 100000 in
theorem lifted (os : Os) (started : os.Started) (H : Type) (enc : TypeId × Value → H) :
 ReturnsInHanded {} Tryd.checked os 5 .any (fun w args => (Rows.treeSameSpec.pre enc Tryd.prog Tryd.f5 [] false w args ∧ laidMetH Tryd.prog Rows.treeSameRow.laid w) ∧ sizedMet enc Tryd.prog Tryd.f5 (OpenSpec.ofChange Rows.treeSameSpec) false w args)
  (Rows.treeSameSpec.post enc Tryd.prog Tryd.f5 false true false false) := by
 refine returnsInHanded_of_change_and (C := Tryd.checked) (X := fun w _ => laidMetH Tryd.prog Rows.treeSameRow.laid w) (fun _ _ _ hh h => h.of_heap hh) own started (by kernel_rfl) Tryd.func5
  (ChangeSpec.witness_shaped (enc := enc) (C := Tryd.checked) (os := os) (X := fun w _ => laidMetH Tryd.prog Rows.treeSameRow.laid w) false (World.laidAll Tryd.prog os Rows.treeSameRow.laid) #[.slice none 0 0, .int .u8 0, .int .i64 0] 8 (World.laidAll_os _ _ _)
    (World.shaped_of_ZipB (by kernel_rfl) (by kernel_rfl)) (by kernel_rfl) (by kernel_rfl) (by kernel_rfl)
    (by rw [MakeChecks.laidMetH_plain _ _ _ (by kernel_rfl)]; exact laidMet_laidAll _ (by kernel_rfl) (by kernel_rfl))) ?_
 intro W base args ds gs before hval0 hW _ _ hL _
 have hval : ∀ (j : Nat) t v, Tryd.f5.params[j]? = some t → args[j]? = some v → Value.okWide Tryd.prog W .any base t v := hval0
 have hW' := hW
 obtain ⟨p, q, hA0, hV, rfl, hfz, hnd⟩ := hW
 have hA : DataW.TrodAll enc Tryd.prog W 0 (fun _ => true) true Tryd.f5.params.toList args.toList ds p := hA0
 rw [Tryd.params5] at hA hval
 obtain ⟨v0, vs0, d0, ds0, p0, q0, hargs, rfl, rfl, h0, r0⟩ := trodAll_cons hA
 obtain ⟨v1, vs1, d1, ds1, p1, q1, rfl, rfl, rfl, h1, r1⟩ := trodAll_cons r0
 obtain ⟨v2, vs2, d2, ds2, p2, q2, rfl, rfl, rfl, h2, r2⟩ := trodAll_cons r1
 obtain ⟨rfl, rfl, rfl⟩ := trodAll_nil r2
 obtain rfl : args = #[v0, v1, v2] := by cases args; simp_all
 obtain ⟨rfl, rfl⟩ := trodVars_none hV
 obtain ⟨a0, len0, cap0, rfl⟩ := okWide_slice Tryd.underlying23 (hval 0 23 v0 rfl rfl)
 obtain ⟨z0, i0⟩ := open_tree h0
 obtain ⟨a1, rfl, rfl, rfl, w1⟩ := open_int Tryd.underlying5 (hval 1 5 v1 rfl rfl) h1
 obtain ⟨a2, rfl, rfl, rfl, w2⟩ := open_int Tryd.underlying3 (hval 2 3 v2 rfl rfl) h2
 clear hA0 hval0
 simp only [List.append_nil] at hW'
 rw [MakeChecks.laidMetH_plain _ _ _ (by kernel_rfl)] at hL
 refine (walk a0 len0 cap0 z0 a1 a2 W i0 w1 w2 (tab_of hL)).mono fun e W' ⟨he, bel⟩ => ?_
 subst he
 exact ⟨_, rfl, _, _, _, [], _, [], hW', trodAll_mk1 (shut_bool Tryd.underlying4 _), (trodAll_cons_mk (Below.trod laidOut (by kernel_rfl) (of_decide_eq_true (by kernel_rfl)) h0 bel (places_lt h0)) (trodAll_cons_mk (shut_int Tryd.underlying5 w1) (trodAll_cons_mk (shut_int Tryd.underlying3 w2) trodAll_mk0))), rfl, bel.frame _, fun h => by cases h⟩
theorem over : Rows.treeSameRow.holds Tryd.pinned (OpenSpec.ofChange Rows.treeSameSpec) :=
 OpenClaim.holds_of_wide 5 Tryd.f5 rfl rfl rfl rfl rfl rfl rfl ⟨rfl, rfl, rfl, rfl, rfl⟩ rfl rfl rfl rfl rfl (by kernel_rfl) Tryd.func5 (by kernel_rfl)
  (of_decide_eq_true (by kernel_rfl)) (by unfold Func.isWrapper; first | (rw [if_pos (by decide +kernel)]; kernel_rfl) | (rw [if_neg (by decide +kernel)]; exact ⟨rfl, rfl⟩))
  (fun os started H enc _ => lifted os started H enc)
theorem proved : Rows.TreeSameCardSaid :=
 Claim7.holds_tied_plain_at .later [] Rows.treeSameCard.laidKinds true Rows.treeSameCard.stood.harness Rows.treeSameCard.stood.looks
  over (fun _ h => by cases h) (by kernel_rfl) (fun _ h => by cases h) treeSame_row_tie rfl ⟨rfl, rfl⟩ (by kernel_rfl) rfl
  (fun f fn hf hfn => by
    obtain rfl : f = 5 := Option.some.inj ((show Tryd.prog.funcNamed Rows.treeSameRow.func = some 5 by kernel_rfl).symm.trans hf) |>.symm
    obtain rfl : fn = Tryd.f5 := (Option.some.inj (Tryd.func5.symm.trans hfn)).symm
    exact ⟨by kernel_rfl, fun j t ht => by
     have hm : t ∈ Tryd.f5.params.toList := by simpa using Array.mem_of_getElem? ht
     have hall : (Tryd.f5.params.toList.all fun u => !Tryd.prog.wantsStandIn u) = true := by kernel_rfl
     exact (show Tryd.prog.wantsStandIn t = false by simpa using List.all_eq_true.1 hall t hm)⟩)
  (by kernel_rfl)
end Go.Proofs.YtbddhflmknaadaaDoor.lawTreeSame
