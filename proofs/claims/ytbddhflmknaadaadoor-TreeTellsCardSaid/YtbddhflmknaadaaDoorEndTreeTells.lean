/- For every two trees and what is asked of them, TreeTells answers true and leaves its arguments as they were. Conditions: the row's own (the tables of kinds read as the program lays them; what is handed in reads in the caller's memory). -/
import Derived.Test.YtbddhflmknaadaaDoorM5
import Derived.Test.YtbddhflmknaadaaDoorCards
import Derived.Test.YtbddhflmknaadaaDoorTie
import Derived.ChangeMaps5
import Derived.Lay
import Derived.SevenTiedAt
/- How an argument that is a struct of two texts and two numbers is opened. No condition. -/
namespace Go.Proofs.YtbddhflmknaadaaDoor
open Go.ChangeShapes Go.WideShapes Go.ChangeAt Go.RowKit Limb
set_option linter.unusedVariables false
theorem cells_askT : Tryd.prog.cellsOf 25 = 4 := by kernel_rfl
set_option maxRecDepth 100000 in
theorem open_askT {H : Type} {enc : TypeId × Value → H} {W : World} {r : Reach} {b0 : Nat} {sp : Nat → Bool} {held : Bool} {v : Value} {d : DataW H} {p : List MemPlace}
 (hok : Value.okWide Tryd.prog W r b0 25 v) (h : DataW.Trod enc Tryd.prog W 0 sp held 25 v d p) :
 ∃ (s u : ByteArray) (n j : Int), v = .agg #[.string s, .string u, .int .i64 n, .int .i64 j] ∧ s.size ≤ maxLen ∧ u.size ≤ maxLen ∧ (Lit.int .i64 n).wf = true ∧ (Lit.int .i64 j).wf = true := by
 obtain ⟨cs, rfl, hsz⟩ := okWide_struct Tryd.underlying25 hok
 rw [cells_askT] at hsz
 obtain ⟨fuel, hf⟩ := h
 obtain ⟨xs, m, rfl, hx, hlen, hxl, hel⟩ := DataW.trod_struct Tryd.underlying25 hf
 have h0 : DataW.trod enc Tryd.prog W 0 sp held m 9 (((Value.agg cs).cells.toList.drop 0).take (Tryd.prog.cellsOf 9)) = xs[0]? := hel 0 _ rfl
 have h1 : DataW.trod enc Tryd.prog W 0 sp held m 9 (((Value.agg cs).cells.toList.drop 1).take (Tryd.prog.cellsOf 9)) = xs[1]? := hel 1 _ rfl
 have h2 : DataW.trod enc Tryd.prog W 0 sp held m 3 (((Value.agg cs).cells.toList.drop 2).take (Tryd.prog.cellsOf 3)) = xs[2]? := hel 2 _ rfl
 have h3 : DataW.trod enc Tryd.prog W 0 sp held m 3 (((Value.agg cs).cells.toList.drop 3).take (Tryd.prog.cellsOf 3)) = xs[3]? := hel 3 _ rfl
 rw [cellsS1] at h0 h1
 rw [cellsI1] at h2 h3
 have hxl2 : xs.length = 4 := by simpa using hxl
 rw [List.getElem?_eq_getElem (by omega)] at h0 h1 h2 h3
 have hcl : cs.toList.length = 4 := by simpa using hsz
 have hcc : (Value.agg cs).cells.toList = cs.toList := rfl
 rw [hcc] at h0 h1 h2 h3
 match hcs : cs.toList, hcl with
 | [c0, c1, c2, c3], _ =>
  rw [hcs] at h0 h1 h2 h3
  obtain ⟨s, hs, _, hl⟩ := DataW.trod_string Tryd.underlying9 h0
  obtain ⟨u, hu, _, hlu⟩ := DataW.trod_string Tryd.underlying9 h1
  obtain ⟨n, hn, _, hw⟩ := DataW.trod_int Tryd.underlying3 h2
  obtain ⟨j, hj, _, hv⟩ := DataW.trod_int Tryd.underlying3 h3
  simp at hs hu hn hj
  subst hs hu hn hj
  exact ⟨s, u, n, j, by rw [← Array.toArray_toList (xs := cs), hcs], hl, hlu, hw, hv⟩
end Go.Proofs.YtbddhflmknaadaaDoor

/- What trees that are put together tell: which may be, how deep they are. No condition. -/
namespace Go.Proofs.YtbddhflmknaadaaDoor
open Go.RowKit Limb
set_option linter.unusedVariables false
theorem map_shift0 (ts : List Nd) : ts.map (shiftN 0) = ts := by
 induction ts with
 | nil => rfl
 | cons x r ih => rw [List.map_cons, shiftN_zero, ih]
theorem packL_one (ts : List Nd) : packL [ts] = ts := by
 show [] ++ ts.map (shiftN 0) = ts
 rw [List.nil_append, map_shift0]
theorem packL_two (ts us : List Nd) : packL [ts, us] = ts ++ us.map (shiftN ts.length) := by
 show ([] ++ ts.map (shiftN 0)) ++ us.map (shiftN ([] ++ ts.map (shiftN 0)).length) = _
 rw [List.nil_append, map_shift0]
theorem getD_one {o : List Nat} {j : Nat} (h : j < o.length) (a b : Nat) : o.getD j a = o.getD j b := by
 rw [List.getD_eq_getElem?_getD, List.getD_eq_getElem?_getD, List.getElem?_eq_getElem h]; rfl
theorem good_over {ts : List Nd} {x : Nd} (hg : goodT ts = true) (hl : ts.length + 1 ≤ 2000) (hf : fitsN x = true) (hk : oneK x.k = true) (ha : x.a = ((ts.length - 1 : Nat) : Int)) : goodT (ts ++ [x]) = true ∧ deepI (ts ++ [x]) = 1 + deepI ts := by
 obtain ⟨h1, h2, o, hb, hol, hlow, h0⟩ := good_all hg
 have h00 : o.getD (ts.length - 1) 0 = 0 := by rw [getD_one (by omega) 0 1]; exact h0
 have hs := stepB_one hf hk ha (by omega : o.length = ts.length - 1 + 1)
 rw [h00] at hs
 have hb2 : begT (ts ++ [x]) = some (o ++ [0]) := by
  unfold begT at hb ⊢
  rw [begF_append, hb, begF_step hs]; rfl
 have hlen : (ts ++ [x]).length = ts.length + 1 := by rw [List.length_append]; rfl
 have hg2 : goodT (ts ++ [x]) = true := by
  rw [goodT_of hb2 (by omega) (by omega), hlen, Nat.add_sub_cancel, ← hol, getD_snoc_eq]; rfl
 refine ⟨hg2, ?_⟩
 unfold deepI
 rw [if_pos hg2, if_pos hg, depT_snoc, hlen, Nat.add_sub_cancel]
 have h3 := getD_snoc_eq (depT ts) (depS (depT ts) x) 0
 rw [depT_len] at h3
 rw [h3]
 unfold depS
 rw [if_neg (by rw [one_not_two hk]; decide), if_pos hk, ha]
 rfl
theorem getD_two {o q : List Nat} {n j : Nat} (hn : o.length = n) (d : Nat) : (o ++ q).getD (n + j) d = q.getD j d := by subst hn; exact getD_app_ge j
theorem good_two {ts us : List Nd} {x : Nd} (hg : goodT ts = true) (hg' : goodT us = true) (hl : ts.length + us.length + 1 ≤ 2000) (hf : fitsN x = true) (hk : twoK x.k = true) (ha : x.a = ((ts.length - 1 : Nat) : Int)) (hb0 : x.b = ((ts.length + us.length - 1 : Nat) : Int)) :
 goodT (ts ++ us.map (shiftN ts.length) ++ [x]) = true ∧ deepI (ts ++ us.map (shiftN ts.length) ++ [x]) = 1 + max (deepI ts) (deepI us) ∧ goodT (ts ++ us.map (shiftN ts.length)) = false := by
 obtain ⟨h1, h2, o, hb, hol, hlow, h0⟩ := good_all hg
 obtain ⟨h1', h2', q, hb', hol', hlow', h0'⟩ := good_all hg'
 have h00 : o.getD (ts.length - 1) 0 = 0 := by rw [getD_one (by omega) 0 1]; exact h0
 have h00' : q.getD (us.length - 1) 0 = 0 := by rw [getD_one (by omega) 0 1]; exact h0'
 have hj := begT_join hb hb'
 have hjl : (o ++ q.map (· + ts.length)).length = ts.length + us.length := by rw [List.length_append, List.length_map, hol, hol']
 have hlen0 : (ts ++ us.map (shiftN ts.length)).length = ts.length + us.length := by rw [List.length_append, List.length_map]
 have hlast : (o ++ q.map (· + ts.length)).getD (ts.length + us.length - 1) 0 = ts.length := by
  rw [show ts.length + us.length - 1 = ts.length + (us.length - 1) by omega, getD_two hol, getD_map_add (by omega), h00', Nat.zero_add]
 have hs := stepB_two (o := o ++ q.map (· + ts.length)) hf hk hb0 (by omega) ha (by rw [hlast]; omega)
 have hfst : (o ++ q.map (· + ts.length)).getD (ts.length - 1) 0 = 0 := by
  rw [List.getD_eq_getElem?_getD, List.getElem?_append_left (by omega), ← List.getD_eq_getElem?_getD, h00]
 rw [hfst] at hs
 have hb2 : begT (ts ++ us.map (shiftN ts.length) ++ [x]) = some (o ++ q.map (· + ts.length) ++ [0]) := by
  unfold begT at hj ⊢
  rw [begF_append, hj, begF_step hs]; rfl
 have hlen : (ts ++ us.map (shiftN ts.length) ++ [x]).length = ts.length + us.length + 1 := by rw [List.length_append, hlen0]; rfl
 have hg2 : goodT (ts ++ us.map (shiftN ts.length) ++ [x]) = true := by
  rw [goodT_of hb2 (by omega) (by omega), hlen, Nat.add_sub_cancel, ← hjl, getD_snoc_eq]; rfl
 refine ⟨hg2, ?_, ?_⟩
 · unfold deepI
   rw [if_pos hg2, if_pos hg, if_pos hg', depT_snoc, hlen, Nat.add_sub_cancel]
   have h3 := getD_snoc_eq (depT (ts ++ us.map (shiftN ts.length))) (depS (depT (ts ++ us.map (shiftN ts.length))) x) 0
   rw [depT_len, hlen0] at h3
   rw [h3]
   unfold depS
   rw [if_pos hk, ha, hb0, depT_join hb', Int.toNat_natCast, Int.toNat_natCast]
   have e1 : (depT ts ++ depT us).getD (ts.length - 1) 0 = (depT ts).getD (ts.length - 1) 0 := by
    rw [List.getD_eq_getElem?_getD, List.getElem?_append_left (by rw [depT_len]; omega), ← List.getD_eq_getElem?_getD]
   have e2 : (depT ts ++ depT us).getD (ts.length + us.length - 1) 0 = (depT us).getD (us.length - 1) 0 := by
    rw [show ts.length + us.length - 1 = ts.length + (us.length - 1) by omega, getD_two (depT_len ts)]
   rw [e1, e2]
 · rw [goodT_of hj (by omega) (by omega), hlen0, decide_eq_false]
   rw [getD_one (by omega) 1 0, hlast]
   omega
theorem deep_le {ts : List Nd} (hg : goodT ts = true) : 1 ≤ deepI ts ∧ deepI ts ≤ ts.length := by
 obtain ⟨h1, h2, o, hb, _, _, _⟩ := good_all hg
 have h9 := depT_dep hb (ts.length - 1) (by rw [depT_len]; omega)
 unfold deepI
 rw [if_pos hg]
 omega
theorem pack_over {ts : List Nd} {x : Nd} (hf : fitsN x = true) (hg : goodT ts = true) (hl : ts.length + 1 ≤ 2000) : packR x [ts] = some (ts ++ [x]) := by
 unfold packR
 rw [if_pos ⟨hf, all_one.2 hg, by simp [sumL]; omega⟩, packL_one]
theorem pack_two {ts us : List Nd} {x : Nd} (hf : fitsN x = true) (hg : goodT ts = true) (hg' : goodT us = true) (hl : ts.length + us.length + 1 ≤ 2000) : packR x [ts, us] = some (ts ++ us.map (shiftN ts.length) ++ [x]) := by
 unfold packR
 rw [if_pos ⟨hf, all_two.2 ⟨hg, hg'⟩, by simp [sumL]; omega⟩, packL_two]
end Go.Proofs.YtbddhflmknaadaaDoor

/- What package tree puts together and what the document's reference puts together are one. No condition. -/
namespace Go.Proofs.YtbddhflmknaadaaDoor
open Go.RowKit Limb
set_option linter.unusedVariables false
theorem good_last {ts : List Nd} {x : Nd} (h : goodT (ts ++ [x]) = true) : fitsN x = true ∧ ts.length + 1 ≤ 2000 := by
 obtain ⟨h1, h2, o, hb, _, _, _⟩ := good_all h
 have hl : (ts ++ [x]).length = ts.length + 1 := by rw [List.length_append]; rfl
 refine ⟨?_, by omega⟩
 unfold begT at hb
 rw [begF_append] at hb
 cases hq : begF (some []) ts with
 | none => rw [hq, begF_none] at hb; cases hb
 | some q =>
  rw [hq] at hb
  obtain ⟨s, hs, _⟩ := begF_cons hb
  exact (stepB_cases hs).1
theorem good_leaf {x : Nd} (hk : x.k = 1 ∨ x.k = 2) : goodT [x] = fitsN x := by
 cases hf : fitsN x with
 | true =>
  have hs := stepB_leaf (o := []) hf hk
  have hb : begT [x] = some [0] := by
   unfold begT
   rw [begF_step hs]; rfl
  rw [goodT_of hb (Nat.le_refl 1) (show 1 ≤ 2000 by decide)]
  rfl
 | false =>
  rw [Bool.eq_false_iff]
  intro e
  have h := (good_last (ts := []) e).1
  rw [hf] at h
  cases h
theorem leaf_eq {x : Nd} (hk : x.k = 1 ∨ x.k = 2) : (packR x []).getD [] = wholeT [x] := by
 unfold packR wholeT
 rw [good_leaf hk]
 cases hf : fitsN x with
 | true => rw [if_pos ⟨rfl, rfl, by decide⟩, if_pos rfl]; rfl
 | false => rw [if_neg (fun h => by cases h.1), if_neg (by decide)]; rfl
theorem over_eq {ts : List Nd} {x : Nd} (hk : oneK x.k = true) (ha : goodT ts = true → x.a = ((ts.length - 1 : Nat) : Int)) : (packR x [ts]).getD [] = if goodT ts = true then wholeT (ts ++ [x]) else [] := by
 by_cases hg : goodT ts = true
 · rw [if_pos hg]
   by_cases hf : fitsN x = true ∧ ts.length + 1 ≤ 2000
   · rw [pack_over hf.1 hg hf.2, wholeT_yes (good_over hg hf.2 hf.1 hk (ha hg)).1]; rfl
   · have h2 : goodT (ts ++ [x]) = false := by rw [Bool.eq_false_iff]; exact fun e => hf (good_last e)
     rw [wholeT_no h2]
     unfold packR
     rw [if_neg (fun h => hf ⟨h.1, by have h3 := h.2.2; simp [sumL] at h3; omega⟩)]
     rfl
 · rw [if_neg hg]
   unfold packR
   rw [if_neg (fun h => hg (all_one.1 h.2.1))]
   rfl
theorem join_eq {ts us : List Nd} {x : Nd} (hk : twoK x.k = true) (ha : goodT ts = true → x.a = ((ts.length - 1 : Nat) : Int)) (hb : goodT ts = true → goodT us = true → x.b = ((ts.length + us.length - 1 : Nat) : Int)) : (packR x [ts, us]).getD [] = if goodT ts = true ∧ goodT us = true then wholeT (ts ++ us.map (shiftN ts.length) ++ [x]) else [] := by
 by_cases hg : goodT ts = true ∧ goodT us = true
 · rw [if_pos hg]
   have hlen0 : (ts ++ us.map (shiftN ts.length)).length = ts.length + us.length := by rw [List.length_append, List.length_map]
   by_cases hf : fitsN x = true ∧ ts.length + us.length + 1 ≤ 2000
   · rw [pack_two hf.1 hg.1 hg.2 hf.2, wholeT_yes (good_two hg.1 hg.2 hf.2 hf.1 hk (ha hg.1) (hb hg.1 hg.2)).1]; rfl
   · have h2 : goodT (ts ++ us.map (shiftN ts.length) ++ [x]) = false := by rw [Bool.eq_false_iff]; exact fun e => hf (by have h3 := good_last e; rw [hlen0] at h3; exact h3)
     rw [wholeT_no h2]
     unfold packR
     rw [if_neg (fun h => hf ⟨h.1, by have h3 := h.2.2; simp [sumL] at h3; omega⟩)]
     rfl
 · rw [if_neg hg]
   unfold packR
   rw [if_neg (fun h => hg (all_two.1 h.2.1))]
   rfl
theorem pack_some {x : Nd} {us : List (List Nd)} {R : Option (List Nd)} {L : List Nd} {n : Nat} (h : packR x us = R) (hL : R.getD [] = L) (hn : n = L.length) : decide ((0 : Int) < (n : Int)) = R.isSome ∧ decide (0 < n) = R.isSome := by
 subst hL hn h
 unfold packR
 split
 · refine ⟨decide_eq_true ?_, decide_eq_true ?_⟩ <;> simp <;> omega
 · exact ⟨by decide, by decide⟩
theorem sameN_bare (x y : Nd) : sameN x y = eqN (bareN x) (bareN y) := by
 unfold eqN sameN bareN
 simp
theorem same_bare : ∀ ts us : List Nd, sameT ts us = eqT (ts.map bareN) (us.map bareN)
 | [], [] => rfl
 | [], y :: b => rfl
 | x :: a, [] => rfl
 | x :: a, y :: b => by
  rw [List.map_cons, List.map_cons]
  unfold sameT eqT
  rw [sameN_bare, same_bare a b]
end Go.Proofs.YtbddhflmknaadaaDoor

/- The region of the reference of layer 14 that puts a node behind the row (Join's loop). No condition. -/
namespace Go.Proofs.YtbddhflmknaadaaDoor
open Go.RowKit Limb
set_option linter.unusedVariables false
def regIn14 : Code → Nat → Option (List Oper)
 | .region id ops _, k => if id = k then some ops.toList else none
 | .seq a b, k => (regIn14 a k).orElse fun _ => regIn14 b k
 | .cond _ a b, k => (regIn14 a k).orElse fun _ => regIn14 b k
 | .block _ b, k => regIn14 b k
 | .loop b, k => regIn14 b k
 | .scope b, k => regIn14 b k
 | .rangeFunc _ _ a b, k => (regIn14 a k).orElse fun _ => regIn14 b k
 | _, _ => none
theorem wp_of_eq14 {P : Program} {Q : Exit → Act → World → Prop} {a : Act} {w : World} {c c' : Code} (h : c = c') (hw : c'.wp P Q a w) : c.wp P Q a w := h ▸ hw
set_option maxHeartbeats 4000000 in
set_option maxRecDepth 100000 in
theorem rjReg12 {Q : Exit → Act → World → Prop} {w wr : World} {q9 B n c : Nat} {A : Option Addr} {L : List Nd} {k1 a1 b1 m1 p1 : Int} {t1 u1 : ByteArray}
 {x0 x1 x2 x3 x4 x5 x6 x8 x10 x11 x12 x13 x14 x15 x16 x17 x18 x19 x20 x21 x22 x23 x24 x25 x26 x27 x28 x29 x30 x31 x32 x33 x34 x35 x36 x37 x38 x39 x40 x41 x42 x43 x44 x45 x46 x47 x48 x49 x50 x51 x52 x53 x54 x55 x56 x57 x58 x59 x60 x61 x62 x63 x64 x65 x66 x67 x68 x69 x70 x71 x72 x73 x74 x75 x76 x77 x78 x79 x80 x81 x82 : Value}
 (HR : Hid (RowA wr q9 37 (ndC k1 a1 b1 m1 t1 u1 p1))) (HO : Hid (OwnR wr B 37 7 A n c (ndCells L))) (HB : Hid (Below w.heap.size w wr)) (hB0 : Hid (w.heap.size ≤ B)) (hBs : Hid (B ≤ wr.heap.size)) (hn4 : n ≤ 100000)
 (hK : ∀ (A2 : Option Addr) (c2 : Nat) (wN : World) (y64 y65 y66 y67 : Value), Hid (OwnR wN B 37 7 A2 (n + 1) c2 (ndCells (L ++ [(⟨k1, a1, b1, m1, t1, u1, p1⟩ : Nd)]))) → Hid (B ≤ wN.heap.size) → Hid (Below w.heap.size w wN) → Q .normal ⟨#[x0, x1, x2, x3, x4, x5, x6, .slice A2 (n + 1) c2, x8, .pointer (some ⟨q9, 0, none⟩), x10, x11, x12, x13, x14, x15, x16, x17, x18, x19, x20, x21, x22, x23, x24, x25, x26, x27, x28, x29, x30, x31, x32, x33, x34, x35, x36, x37, x38, x39, x40, x41, x42, x43, x44, x45, x46, x47, x48, x49, x50, x51, x52, x53, x54, x55, x56, x57, x58, x59, x60, x61, x62, x63, y64, y65, y66, y67, x68, x69, x70, x71, x72, x73, x74, x75, x76, x77, x78, x79, x80, x81, x82], []⟩ wN) :
 (Code.region 12 (((Tryd.f16.body.bind fun b => regIn14 b 12)).getD []).toArray false).wp Tryd.prog Q ⟨#[x0, x1, x2, x3, x4, x5, x6, .slice A n c, x8, .pointer (some ⟨q9, 0, none⟩), x10, x11, x12, x13, x14, x15, x16, x17, x18, x19, x20, x21, x22, x23, x24, x25, x26, x27, x28, x29, x30, x31, x32, x33, x34, x35, x36, x37, x38, x39, x40, x41, x42, x43, x44, x45, x46, x47, x48, x49, x50, x51, x52, x53, x54, x55, x56, x57, x58, x59, x60, x61, x62, x63, x64, x65, x66, x67, x68, x69, x70, x71, x72, x73, x74, x75, x76, x77, x78, x79, x80, x81, x82], []⟩ wr := by
 show (Code.region 12 (List.toArray [_, _, _, _, _]) false).wp _ _ _ _
 have HI_y : Hid (InV wr q9 0 (ndC k1 a1 b1 m1 t1 u1 p1)) := HR.out.inV
 have HM_y := Lib.hid (manyNd k1 a1 b1 m1 t1 u1 p1)
 have b2 := below_new wr (.cells (ndC k1 a1 b1 m1 t1 u1 p1) 37)
 have Hown2 : Hid ((wr.alloc (.cells (ndC k1 a1 b1 m1 t1 u1 p1) 37)).ownsRow B 37 7 (.slice A n c) n (ndCells L)) := (OwnR.below HO.out b2)
 have hnr : NdR (wr.alloc (.cells (ndC k1 a1 b1 m1 t1 u1 p1) 37)) wr.heap.size [(⟨k1, a1, b1, m1, t1, u1, p1⟩ : Nd)] := NdR.one (rowA_new wr 37 (ndC k1 a1 b1 m1 t1 u1 p1))
 have Hx2 : Hid (TreR (wr.alloc (.cells (ndC k1 a1 b1 m1 t1 u1 p1) 37)) (some ⟨wr.heap.size, 0, none⟩) 1 1 [(⟨k1, a1, b1, m1, t1, u1, p1⟩ : Nd)]) := hnr.tree (by show 1 ≤ maxLen; unfold maxLen; omega)
 have Hb2 : Hid (n ≤ 1000000 ∧ 1 ≤ 1000000 ∧ B ≤ (wr.alloc (.cells (ndC k1 a1 b1 m1 t1 u1 p1) 37)).heap.size) := ⟨by omega, by omega, Nat.le_trans hBs.out b2.size⟩
 have HBb := Lib.hid (below_two HB.out b2)
 clear b2 hnr
 go_wp2_with (first | (refine wpList_loadV (by rfl) _ _ (by rfl) _ _ (by rfl) _ (by assumption) (by assumption) ?_) | (at_builtin; refine wpList_append_nd rfl _ _ rfl B _ n L (by rfl) Hown2 (some ⟨wr.heap.size, 0, none⟩) 1 1 [(⟨k1, a1, b1, m1, t1, u1, p1⟩ : Nd)] (by rfl) Hx2 Hb2 ?_))
 intro A3 c3 w5 hO5 hg5
 have HB5 : Hid (Below w.heap.size w w5) := by
  refine HBb.out.grown hg5.out HBb.out.size ?_
  intro g hg
  have h9 := OwnR.lt (show OwnR (wr.alloc (.cells (ndC k1 a1 b1 m1 t1 u1 p1) 37)) B 37 7 A n c (ndCells L) from Hown2.out) g hg
  have := hB0.out; omega
 have HS5 : Hid (B ≤ w5.heap.size) := Nat.le_trans Hb2.out.2.2 hg5.out.size
 clear hg5 Hown2 Hx2 Hb2 HBb HI_y HM_y HR HO HB
 go_wp2
 exact hK A3 c3 w5 _ _ _ _ hO5 HS5 HB5
end Go.Proofs.YtbddhflmknaadaaDoor

/- What the reference of layer 14 answers (Join), as a contract over memory. Conditions: rows of nodes that can be read, at most 10^6 of them, texts of at most 10^6 bytes. -/
namespace Go.Proofs.YtbddhflmknaadaaDoor
open Go.RowKit Limb
set_option linter.unusedVariables false
theorem shiftN_t (d : Nat) (x : Nd) : (shiftN d x).t = x.t := by
 unfold shiftN
 split
 · rfl
 · split <;> rfl
theorem shiftN_u (d : Nat) (x : Nd) : (shiftN d x).u = x.u := by
 unfold shiftN
 split
 · rfl
 · split <;> rfl
set_option maxHeartbeats 60000000 in
set_option maxRecDepth 100000 in
theorem rJoin_c (kk : Int) {w : World} {A : Option Addr} {n c : Nat} {ts : List Nd} (h : TreR w A n c ts) (hm : Mild ts) {B : Option Addr} {m d : Nat} {us : List Nd} (h2 : TreR w B m d us) (hm2 : Mild us) (Lr : List Nd) (hLr : (if goodT ts = true ∧ goodT us = true ∧ twoK kk = true then wholeT (ts ++ us.map (shiftN ts.length) ++ [⟨kk, (n : Int) - 1, (n : Int) + (m : Int) - 1, 0, ⟨#[]⟩, ⟨#[]⟩, 0⟩]) else []) = Lr) :
 Calls Tryd.prog 16 #[.int .i64 kk, .slice A n c, .slice B m d] w fun e w' => ∃ A2 n2 c2, e = .returned (.slice A2 n2 c2) ∧ TreR w' A2 n2 c2 (Lr) ∧ Below w.heap.size w w' := by
 have hn6 := hm.1
 rw [← h.1] at hn6
 have hn7 := hm2.1
 rw [← h2.1] at hn7
 have H := Lib.hid h
 have H2 := Lib.hid h2
 have HM := Lib.hid hm
 have HM2 := Lib.hid hm2
 have HN := Lib.hid h.1
 have HN2 := Lib.hid h2.1
 have HLr := Lib.hid hLr
 clear h h2 hm hm2 hLr
 obtain ⟨g1, hg1⟩ : ∃ b, goodT ts = b := ⟨_, rfl⟩
 obtain ⟨g2, hg2⟩ : ∃ b, goodT us = b := ⟨_, rfl⟩
 obtain ⟨k2, hk2⟩ : ∃ b, twoK kk = b := ⟨_, rfl⟩
 have HG1 := Lib.hid hg1
 have HG2 := Lib.hid hg2
 have HK2 := Lib.hid hk2
 clear hg1 hg2 hk2
 go_enter Tryd.func16, Tryd.ntmps16
 go_wp2_with fail
 refine (rTGood_c H.out HM.out g1 HG1.out).mono ?_
 rintro e w1 ⟨rfl, bn⟩
 have HB1 := Lib.hid bn
 clear bn
 cases g1 with
 | false =>
  go_wp2
  go_ret
  exact ⟨none, 0, 0, rfl, by rw [← HLr.out, if_neg (by rw [HG1.out]; exact fun h => by cases h.1)]; exact TreR.nil _ (Nat.zero_le _), HB1.out⟩
 | true =>
  go_wp2_with fail
  refine (rTGood_c (H2.out.below HB1.out) HM2.out g2 HG2.out).mono ?_
  rintro e w2 ⟨rfl, bn⟩
  have HB2 := Lib.hid (below_two HB1.out bn)
  clear bn
  cases g2 with
  | false =>
   go_wp2
   go_ret
   exact ⟨none, 0, 0, rfl, by rw [← HLr.out, if_neg (by rw [HG2.out]; exact fun h => by cases h.2.1)]; exact TreR.nil _ (Nat.zero_le _), HB2.out⟩
  | true =>
   go_wp2_with fail
   refine (rTwo_c kk k2 HK2.out w2).mono ?_
   rintro e wx ⟨rfl, rfl⟩
   cases k2 with
   | false =>
    go_wp2
    go_ret
    exact ⟨none, 0, 0, rfl, by rw [← HLr.out, if_neg (by rw [HK2.out]; exact fun h => by cases h.2.2)]; exact TreR.nil _ (Nat.zero_le _), HB2.out⟩
   | true =>
    have HB2s : Hid (w.heap.size ≤ w2.heap.size) := HB2.out.size
    have hn2 := (good_all HG1.out).2.1
    rw [← HN.out] at hn2
    have hm2 := (good_all HG2.out).2.1
    rw [← HN2.out] at hm2
    have HFr := Lib.hid (fair_good HG2.out HM2.out)
    have HT := Lib.hid (H.out.below HB2.out)
    have bl0 := below_new w2 (.cells #[] 37)
    have Hx := Lib.hid (TreR.below HT.out bl0)
    have Hown := Lib.hid (own_nd0 w2)
    have Hb : Hid (0 ≤ 1000000 ∧ n ≤ 1000000 ∧ w2.heap.size ≤ (w2.alloc (.cells #[] 37)).heap.size) := ⟨by omega, by omega, by simp⟩
    clear bl0
    go_wp2_with (at_builtin; refine wpList_append_nd rfl _ _ rfl w2.heap.size _ 0 [] rfl Hown A n c ts rfl Hx Hb ?_)
    intro A2 c2 w3 hO hg2
    have HB3 := Lib.hid (below_two HB2.out (below_lit hg2.out (Nat.le_refl _)))
    have ho2 : Hid (OwnT w3 w2.heap.size A2 n c2 (ts ++ (us.take 0).map (shiftN ts.length))) := by show OwnT _ _ _ _ _ _; rw [List.take_zero, List.map_nil, List.append_nil]; exact ⟨HN.out, by have h := hO.out; simpa using h⟩
    have Hsz : Hid (w.heap.size ≤ w2.heap.size ∧ w2.heap.size ≤ w3.heap.size) := ⟨HB2.out.size, by have := hg2.out.size; simp at this; omega⟩
    clear hO hg2 Hown Hx Hb
    try rw [Nat.zero_add]
    go_wp2
    go_loopw [7, 8] (fun s i wr => ∃ (k0 : Nat) (A9 : Option Addr) (c9 : Nat), s = .slice A9 (n + k0) c9 ∧ i = .int .i64 (k0 : Int) ∧ k0 ≤ m ∧ Hid (OwnT wr w2.heap.size A9 (n + k0) c9 (ts ++ (us.take k0).map (shiftN ts.length))) ∧ Hid (w2.heap.size ≤ wr.heap.size) ∧ Hid (Below w.heap.size w wr)) (fun _ i _ => m - (intOf i).toNat)
    case atStart => exact ⟨0, A2, c2, rfl, rfl, Nat.zero_le _, ho2, Hsz.out.2, HB3⟩
    case round =>
     obtain ⟨k0, A9, c9, rfl, rfl, hk, HO, HS, HB⟩ := hrel
     by_cases hlt : k0 < m
     · skip
       obtain ⟨x, hx⟩ : ∃ x, us[k0]? = some x := ⟨_, List.getElem?_eq_getElem (by rw [← HN2.out]; exact hlt)⟩
       have HX := Lib.hid hx
       obtain ⟨g, og, rfl, hg, hin⟩ := (H2.out.below HB.out).at hx
       obtain ⟨ft, fu, fa0, fa1, fb0, fb1⟩ := HFr.out x (List.mem_of_getElem? hx)
       obtain ⟨k1, a1, b1, m1, t1, u1, p1⟩ := x
       dsimp only at ft fu fa0 fa1 fb0 fb1
       have HI_x : Hid (InV wr g (og + k0 * 7) (ndC k1 a1 b1 m1 t1 u1 p1)) := hin
       have HM_x := Lib.hid (manyNd k1 a1 b1 m1 t1 u1 p1)
       have HU_x : Hid (Many Tryd.prog 37 (ndC k1 a1 b1 m1 t1 u1 p1).size ∧ zN.size = (ndC k1 a1 b1 m1 t1 u1 p1).size ∧ ∀ v ∈ ndC k1 a1 b1 m1 t1 u1 p1, v.oneCell' = true) := fitsNd ⟨k1, a1, b1, m1, t1, u1, p1⟩ zNd
       clear hx hin hg
       go_upto_region 8 with (first | (refine wpList_loadV (by rfl) _ _ (by rfl) _ _ (by rfl) _ (by assumption) (by assumption) ?_) | (refine wpList_storeNew (by rfl) _ _ _ (by rfl) _ _ _ (by rfl) (by rfl) (by assumption) ?_))
       dsimp only [Act.put]
       have hrx := rowA_new wr 37 (ndC k1 a1 b1 m1 t1 u1 p1)
       have HBx := Lib.hid (below_new wr (.cells (ndC k1 a1 b1 m1 t1 u1 p1) 37))
       generalize wr.alloc (.cells (ndC k1 a1 b1 m1 t1 u1 p1) 37) = wS at *
       obtain ⟨q9, hq9⟩ : ∃ g, g = wr.heap.size := ⟨_, rfl⟩
       rw [← hq9] at hrx ⊢
       have Hq9 := Lib.hid hq9
       have HRx := Lib.hid hrx
       clear hq9 HI_x HU_x HM_x
       have kk0 := hrx.cell (k := 0) (v := .int .i64 k1) rfl
       have ka1 := hrx.cell (k := 1) (v := .int .i64 a1) rfl
       have kb2 := hrx.cell (k := 2) (v := .int .i64 b1) rfl
       have fa1x := hrx.free 1
       have fb2x := hrx.free 2
       cases hk1 : twoK k1
       · have HK1 := Lib.hid hk1
         by_cases h7 : k1 = 7
         · subst h7
           have HY : Hid (shiftN ts.length ⟨7, a1, b1, m1, t1, u1, p1⟩ = ⟨7, a1 + (n : Int), b1, m1, t1, u1, p1⟩) := by show _ = _; rw [shiftN_one (show oneK 7 = true from by decide), HN.out]
           clear hk1
           as_aux_lemma =>
            have bel : Below wr.heap.size wr (wS.setCell ⟨q9, 1, none⟩ (.int .i64 (a1 + (n : Int)))) := (below_set HBx.out (Nat.le_of_eq Hq9.out.symm) 1 (.int .i64 (a1 + (n : Int))))
            have HOw : Hid (OwnT (wS.setCell ⟨q9, 1, none⟩ (.int .i64 (a1 + (n : Int)))) w2.heap.size A9 (n + k0) c9 (ts ++ (us.take k0).map (shiftN ts.length))) := HO.out.below bel
            have HSw : Hid (w2.heap.size ≤ (wS.setCell ⟨q9, 1, none⟩ (.int .i64 (a1 + (n : Int)))).heap.size) := Nat.le_trans HS.out bel.size
            have HBw := Lib.hid (below_two HB.out bel)
            have HI_y : Hid (InV (wS.setCell ⟨q9, 1, none⟩ (.int .i64 (a1 + (n : Int)))) q9 0 (ndC 7 (a1 + (n : Int)) b1 m1 t1 u1 p1)) := RowA.inV (show RowA (wS.setCell ⟨q9, 1, none⟩ (.int .i64 (a1 + (n : Int)))) q9 37 (ndC 7 (a1 + (n : Int)) b1 m1 t1 u1 p1) from (RowA.set HRx.out 1 (.int .i64 (a1 + (n : Int)))))
            have HM_y : Hid (Many Tryd.prog 37 (ndC 7 (a1 + (n : Int)) b1 m1 t1 u1 p1).size) := manyNd _ _ _ _ _ _ _
            have HRy : Hid (RowA (wS.setCell ⟨q9, 1, none⟩ (.int .i64 (a1 + (n : Int)))) q9 37 (ndC 7 (a1 + (n : Int)) b1 m1 t1 u1 p1)) := (RowA.set HRx.out 1 (.int .i64 (a1 + (n : Int))))
            clear bel hrx HI_y HM_y
            go_upto_region 12 with (first | (go_at_call 25; (with_reducible refine (rTwo_c 7 false HK1.out _).mono ?_); rintro e wx ⟨rfl, rfl⟩) | (refine wpList_loadV (by rfl) _ _ (by rfl) _ _ (by rfl) _ (by assumption) (by assumption) ?_))
            refine wp_of_eq14 (by kernel_rfl) (rjReg12 HRy HOw.out.2 HBw HB2s HSw (by omega) ?_)
            intro A3 c3 w5 y64 y65 y66 y67 HO5 HS5 HB5
            have HN5 : Hid (OwnT w5 w2.heap.size A3 (n + (k0 + 1)) c3 (ts ++ (us.take (k0 + 1)).map (shiftN ts.length))) := by
             show OwnT _ _ _ _ _ _
             have hy : shiftN ts.length ⟨7, a1, b1, m1, t1, u1, p1⟩ = ⟨7, a1 + (n : Int), b1, m1, t1, u1, p1⟩ := HY.out
             rw [List.take_add_one, HX.out, Option.toList_some, List.map_append, List.map_singleton, hy, ← List.append_assoc]
             exact ⟨by rw [List.length_append, List.length_append, List.length_map, List.length_take, ← HN.out, ← HN2.out]; simp; omega, HO5.out⟩
            clear HO5 HRy HOw HSw HBw HY HX
            go_wp2
            go_roundw
            case rel => exact ⟨k0 + 1, A3, c3, by first | rfl | (rw [Nat.add_assoc]), by go_num, hlt, HN5, HS5, HB5⟩
            case measure => simp [intOf]; omega
         · have e7 : (k1 == 7) = false := by rw [beq_eq_false_iff_ne]; exact h7
           by_cases h8 : k1 = 8
           · subst h8
             have HY : Hid (shiftN ts.length ⟨8, a1, b1, m1, t1, u1, p1⟩ = ⟨8, a1 + (n : Int), b1, m1, t1, u1, p1⟩) := by show _ = _; rw [shiftN_one (show oneK 8 = true from by decide), HN.out]
             clear hk1
             as_aux_lemma =>
              have bel : Below wr.heap.size wr (wS.setCell ⟨q9, 1, none⟩ (.int .i64 (a1 + (n : Int)))) := (below_set HBx.out (Nat.le_of_eq Hq9.out.symm) 1 (.int .i64 (a1 + (n : Int))))
              have HOw : Hid (OwnT (wS.setCell ⟨q9, 1, none⟩ (.int .i64 (a1 + (n : Int)))) w2.heap.size A9 (n + k0) c9 (ts ++ (us.take k0).map (shiftN ts.length))) := HO.out.below bel
              have HSw : Hid (w2.heap.size ≤ (wS.setCell ⟨q9, 1, none⟩ (.int .i64 (a1 + (n : Int)))).heap.size) := Nat.le_trans HS.out bel.size
              have HBw := Lib.hid (below_two HB.out bel)
              have HI_y : Hid (InV (wS.setCell ⟨q9, 1, none⟩ (.int .i64 (a1 + (n : Int)))) q9 0 (ndC 8 (a1 + (n : Int)) b1 m1 t1 u1 p1)) := RowA.inV (show RowA (wS.setCell ⟨q9, 1, none⟩ (.int .i64 (a1 + (n : Int)))) q9 37 (ndC 8 (a1 + (n : Int)) b1 m1 t1 u1 p1) from (RowA.set HRx.out 1 (.int .i64 (a1 + (n : Int)))))
              have HM_y : Hid (Many Tryd.prog 37 (ndC 8 (a1 + (n : Int)) b1 m1 t1 u1 p1).size) := manyNd _ _ _ _ _ _ _
              have HRy : Hid (RowA (wS.setCell ⟨q9, 1, none⟩ (.int .i64 (a1 + (n : Int)))) q9 37 (ndC 8 (a1 + (n : Int)) b1 m1 t1 u1 p1)) := (RowA.set HRx.out 1 (.int .i64 (a1 + (n : Int))))
              clear bel hrx HI_y HM_y
              go_upto_region 12 with (first | (go_at_call 25; (with_reducible refine (rTwo_c 8 false HK1.out _).mono ?_); rintro e wx ⟨rfl, rfl⟩) | (refine wpList_loadV (by rfl) _ _ (by rfl) _ _ (by rfl) _ (by assumption) (by assumption) ?_))
              refine wp_of_eq14 (by kernel_rfl) (rjReg12 HRy HOw.out.2 HBw HB2s HSw (by omega) ?_)
              intro A3 c3 w5 y64 y65 y66 y67 HO5 HS5 HB5
              have HN5 : Hid (OwnT w5 w2.heap.size A3 (n + (k0 + 1)) c3 (ts ++ (us.take (k0 + 1)).map (shiftN ts.length))) := by
               show OwnT _ _ _ _ _ _
               have hy : shiftN ts.length ⟨8, a1, b1, m1, t1, u1, p1⟩ = ⟨8, a1 + (n : Int), b1, m1, t1, u1, p1⟩ := HY.out
               rw [List.take_add_one, HX.out, Option.toList_some, List.map_append, List.map_singleton, hy, ← List.append_assoc]
               exact ⟨by rw [List.length_append, List.length_append, List.length_map, List.length_take, ← HN.out, ← HN2.out]; simp; omega, HO5.out⟩
              clear HO5 HRy HOw HSw HBw HY HX
              go_wp2
              go_roundw
              case rel => exact ⟨k0 + 1, A3, c3, by first | rfl | (rw [Nat.add_assoc]), by go_num, hlt, HN5, HS5, HB5⟩
              case measure => simp [intOf]; omega
           · have e8 : (k1 == 8) = false := by rw [beq_eq_false_iff_ne]; exact h8
             have HY : Hid (shiftN ts.length ⟨k1, a1, b1, m1, t1, u1, p1⟩ = ⟨k1, a1, b1, m1, t1, u1, p1⟩) := shiftN_leaf hk1 (by rw [Bool.eq_false_iff]; intro e; have h78 : k1 = 7 ∨ k1 = 8 := oneK_iff.1 e; omega)
             clear hk1 h7 h8
             as_aux_lemma =>
              have bel : Below wr.heap.size wr wS := HBx.out
              have HOw : Hid (OwnT wS w2.heap.size A9 (n + k0) c9 (ts ++ (us.take k0).map (shiftN ts.length))) := HO.out.below bel
              have HSw : Hid (w2.heap.size ≤ wS.heap.size) := Nat.le_trans HS.out bel.size
              have HBw := Lib.hid (below_two HB.out bel)
              have HI_y : Hid (InV wS q9 0 (ndC k1 a1 b1 m1 t1 u1 p1)) := RowA.inV (show RowA wS q9 37 (ndC k1 a1 b1 m1 t1 u1 p1) from HRx.out)
              have HM_y : Hid (Many Tryd.prog 37 (ndC k1 a1 b1 m1 t1 u1 p1).size) := manyNd _ _ _ _ _ _ _
              have HRy : Hid (RowA wS q9 37 (ndC k1 a1 b1 m1 t1 u1 p1)) := HRx.out
              clear bel hrx HI_y HM_y
              go_upto_region 12 with (first | (go_at_call 25; (with_reducible refine (rTwo_c k1 false HK1.out _).mono ?_); rintro e wx ⟨rfl, rfl⟩) | (refine wpList_loadV (by rfl) _ _ (by rfl) _ _ (by rfl) _ (by assumption) (by assumption) ?_))
              refine wp_of_eq14 (by kernel_rfl) (rjReg12 HRy HOw.out.2 HBw HB2s HSw (by omega) ?_)
              intro A3 c3 w5 y64 y65 y66 y67 HO5 HS5 HB5
              have HN5 : Hid (OwnT w5 w2.heap.size A3 (n + (k0 + 1)) c3 (ts ++ (us.take (k0 + 1)).map (shiftN ts.length))) := by
               show OwnT _ _ _ _ _ _
               have hy : shiftN ts.length ⟨k1, a1, b1, m1, t1, u1, p1⟩ = ⟨k1, a1, b1, m1, t1, u1, p1⟩ := HY.out
               rw [List.take_add_one, HX.out, Option.toList_some, List.map_append, List.map_singleton, hy, ← List.append_assoc]
               exact ⟨by rw [List.length_append, List.length_append, List.length_map, List.length_take, ← HN.out, ← HN2.out]; simp; omega, HO5.out⟩
              clear HO5 HRy HOw HSw HBw HY HX
              go_wp2
              go_roundw
              case rel => exact ⟨k0 + 1, A3, c3, by first | rfl | (rw [Nat.add_assoc]), by go_num, hlt, HN5, HS5, HB5⟩
              case measure => simp [intOf]; omega
       · have HK1 := Lib.hid hk1
         have HY : Hid (shiftN ts.length ⟨k1, a1, b1, m1, t1, u1, p1⟩ = ⟨k1, a1 + (n : Int), b1 + (n : Int), m1, t1, u1, p1⟩) := by show _ = _; rw [shiftN_two hk1, HN.out]
         clear hk1
         as_aux_lemma =>
          have bel : Below wr.heap.size wr ((wS.setCell ⟨q9, 1, none⟩ (.int .i64 (a1 + (n : Int)))).setCell ⟨q9, 2, none⟩ (.int .i64 (b1 + (n : Int)))) := (below_set (below_set HBx.out (Nat.le_of_eq Hq9.out.symm) 1 (.int .i64 (a1 + (n : Int)))) (Nat.le_of_eq Hq9.out.symm) 2 (.int .i64 (b1 + (n : Int))))
          have HOw : Hid (OwnT ((wS.setCell ⟨q9, 1, none⟩ (.int .i64 (a1 + (n : Int)))).setCell ⟨q9, 2, none⟩ (.int .i64 (b1 + (n : Int)))) w2.heap.size A9 (n + k0) c9 (ts ++ (us.take k0).map (shiftN ts.length))) := HO.out.below bel
          have HSw : Hid (w2.heap.size ≤ ((wS.setCell ⟨q9, 1, none⟩ (.int .i64 (a1 + (n : Int)))).setCell ⟨q9, 2, none⟩ (.int .i64 (b1 + (n : Int)))).heap.size) := Nat.le_trans HS.out bel.size
          have HBw := Lib.hid (below_two HB.out bel)
          have HI_y : Hid (InV ((wS.setCell ⟨q9, 1, none⟩ (.int .i64 (a1 + (n : Int)))).setCell ⟨q9, 2, none⟩ (.int .i64 (b1 + (n : Int)))) q9 0 (ndC k1 (a1 + (n : Int)) (b1 + (n : Int)) m1 t1 u1 p1)) := RowA.inV (show RowA ((wS.setCell ⟨q9, 1, none⟩ (.int .i64 (a1 + (n : Int)))).setCell ⟨q9, 2, none⟩ (.int .i64 (b1 + (n : Int)))) q9 37 (ndC k1 (a1 + (n : Int)) (b1 + (n : Int)) m1 t1 u1 p1) from (RowA.set (RowA.set HRx.out 1 (.int .i64 (a1 + (n : Int)))) 2 (.int .i64 (b1 + (n : Int)))))
          have HM_y : Hid (Many Tryd.prog 37 (ndC k1 (a1 + (n : Int)) (b1 + (n : Int)) m1 t1 u1 p1).size) := manyNd _ _ _ _ _ _ _
          have HRy : Hid (RowA ((wS.setCell ⟨q9, 1, none⟩ (.int .i64 (a1 + (n : Int)))).setCell ⟨q9, 2, none⟩ (.int .i64 (b1 + (n : Int)))) q9 37 (ndC k1 (a1 + (n : Int)) (b1 + (n : Int)) m1 t1 u1 p1)) := (RowA.set (RowA.set HRx.out 1 (.int .i64 (a1 + (n : Int)))) 2 (.int .i64 (b1 + (n : Int))))
          clear bel hrx HI_y HM_y
          go_upto_region 12 with (first | (go_at_call 25; (with_reducible refine (rTwo_c k1 true HK1.out _).mono ?_); rintro e wx ⟨rfl, rfl⟩) | (refine wpList_loadV (by rfl) _ _ (by rfl) _ _ (by rfl) _ (by assumption) (by assumption) ?_))
          refine wp_of_eq14 (by kernel_rfl) (rjReg12 HRy HOw.out.2 HBw HB2s HSw (by omega) ?_)
          intro A3 c3 w5 y64 y65 y66 y67 HO5 HS5 HB5
          have HN5 : Hid (OwnT w5 w2.heap.size A3 (n + (k0 + 1)) c3 (ts ++ (us.take (k0 + 1)).map (shiftN ts.length))) := by
           show OwnT _ _ _ _ _ _
           have hy : shiftN ts.length ⟨k1, a1, b1, m1, t1, u1, p1⟩ = ⟨k1, a1 + (n : Int), b1 + (n : Int), m1, t1, u1, p1⟩ := HY.out
           rw [List.take_add_one, HX.out, Option.toList_some, List.map_append, List.map_singleton, hy, ← List.append_assoc]
           exact ⟨by rw [List.length_append, List.length_append, List.length_map, List.length_take, ← HN.out, ← HN2.out]; simp; omega, HO5.out⟩
          clear HO5 HRy HOw HSw HBw HY HX
          go_wp2
          go_roundw
          case rel => exact ⟨k0 + 1, A3, c3, by first | rfl | (rw [Nat.add_assoc]), by go_num, hlt, HN5, HS5, HB5⟩
          case measure => simp [intOf]; omega
     · skip
       obtain rfl : m = k0 := by omega
       have HOw : Hid (OwnT wr w2.heap.size A9 (n + m) c9 (ts ++ us.map (shiftN ts.length))) := by show OwnT _ _ _ _ _ _; have h := HO.out; rw [HN2.out, List.take_length] at h; rw [HN2.out]; exact h
       have HSw := HS
       have HBd : Hid (∀ W, (Instr.build 37 ([(0, .int .i64 kk), (1, .int .i64 ((n : Int) - 1)), (2, .int .i64 ((n : Int) + (m : Int) - 1))] : List (Nat × Value)).toArray).run Tryd.prog W = .ok (.agg (ndC kk ((n : Int) - 1) ((n : Int) + (m : Int) - 1) 0 ⟨#[]⟩ ⟨#[]⟩ 0)) W) := fun W => by kernel_rfl
       have b2 := below_new wr (.cells (ndC kk ((n : Int) - 1) ((n : Int) + (m : Int) - 1) 0 ⟨#[]⟩ ⟨#[]⟩ 0) 37)
       obtain ⟨TS, hTS⟩ : ∃ T, T = ts ++ us.map (shiftN ts.length) := ⟨_, rfl⟩
       have HTS := Lib.hid hTS
       clear hTS
       have Hown2 : Hid ((wr.alloc (.cells (ndC kk ((n : Int) - 1) ((n : Int) + (m : Int) - 1) 0 ⟨#[]⟩ ⟨#[]⟩ 0) 37)).ownsRow w2.heap.size 37 7 (.slice A9 (n + m) c9) (n + m) (ndCells TS)) := by rw [HTS.out]; exact (OwnT.below HOw.out b2).2
       have hnr : NdR (wr.alloc (.cells (ndC kk ((n : Int) - 1) ((n : Int) + (m : Int) - 1) 0 ⟨#[]⟩ ⟨#[]⟩ 0) 37)) wr.heap.size [(⟨kk, (n : Int) - 1, (n : Int) + (m : Int) - 1, 0, ⟨#[]⟩, ⟨#[]⟩, 0⟩ : Nd)] := NdR.one (rowA_new wr 37 (ndC kk ((n : Int) - 1) ((n : Int) + (m : Int) - 1) 0 ⟨#[]⟩ ⟨#[]⟩ 0))
       have Hx2 : Hid (TreR (wr.alloc (.cells (ndC kk ((n : Int) - 1) ((n : Int) + (m : Int) - 1) 0 ⟨#[]⟩ ⟨#[]⟩ 0) 37)) (some ⟨wr.heap.size, 0, none⟩) 1 1 [(⟨kk, (n : Int) - 1, (n : Int) + (m : Int) - 1, 0, ⟨#[]⟩, ⟨#[]⟩, 0⟩ : Nd)]) := hnr.tree (by show 1 ≤ maxLen; unfold maxLen; omega)
       have Hx3 : Hid (TreR (wr.alloc (.cells (ndC kk ((n : Int) - 1) ((n : Int) + (m : Int) - 1) 0 ⟨#[]⟩ ⟨#[]⟩ 0) 37)) (some ⟨wr.heap.size, 0, none⟩) 1 1 [(⟨kk, (n : Int) - 1, (n : Int) + (m : Int) - 1, 0, ⟨#[]⟩, ⟨#[]⟩, 0⟩ : Nd)]) := by first | exact Hx2.out | (have h := Hx2.out; simp only [World.size_setCell] at h; exact h)
       have Hb2 : Hid (n + m ≤ 1000000 ∧ 1 ≤ 1000000 ∧ w2.heap.size ≤ (wr.alloc (.cells (ndC kk ((n : Int) - 1) ((n : Int) + (m : Int) - 1) 0 ⟨#[]⟩ ⟨#[]⟩ 0) 37)).heap.size) := ⟨by omega, by omega, Nat.le_trans HSw.out b2.size⟩
       have HBb := Lib.hid (below_two HB.out b2)
       have HSb := Lib.hid b2.size
       clear b2 hnr
       clear HO HS
       go_wp2_with (first | (refine wpList_buildV (by rfl) _ _ (by rfl) _ (by rfl) _ (by assumption) ?_) | (at_builtin; refine wpList_append_nd rfl _ _ rfl w2.heap.size _ (n + m) TS (by rfl) Hown2 (some ⟨wr.heap.size, 0, none⟩) 1 1 [(⟨kk, (n : Int) - 1, (n : Int) + (m : Int) - 1, 0, ⟨#[]⟩, ⟨#[]⟩, 0⟩ : Nd)] (by rfl) Hx3 Hb2 ?_))
       intro A3 c3 w5 hO5 hg5
       have HB5 : Hid (Below w.heap.size w w5) := by
        refine HBb.out.grown hg5.out HBb.out.size ?_
        intro g hg
        have h9 := OwnR.lt (show OwnR (wr.alloc (.cells (ndC kk ((n : Int) - 1) ((n : Int) + (m : Int) - 1) 0 ⟨#[]⟩ ⟨#[]⟩ 0) 37)) w2.heap.size 37 7 A9 (n + m) c9 (ndCells (TS)) from Hown2.out) g hg
        have := HB2.out.size; omega
       have HS5 : Hid (w2.heap.size ≤ w5.heap.size) := Nat.le_trans Hb2.out.2.2 hg5.out.size
       have HO5 : Hid (OwnR w5 w2.heap.size 37 7 A3 (n + m + 1) c3 (ndCells ((ts ++ us.map (shiftN ts.length)) ++ [(⟨kk, (n : Int) - 1, (n : Int) + (m : Int) - 1, 0, ⟨#[]⟩, ⟨#[]⟩, 0⟩ : Nd)]))) := by have h := hO5.out; rw [HTS.out] at h; exact h
       clear hO5 hg5 Hown2 Hx2 Hx3 Hb2 HBb HSb HTS
       have ht5 : OwnT w5 w2.heap.size A3 (n + m + 1) c3 (ts ++ us.map (shiftN ts.length) ++ [(⟨kk, (n : Int) - 1, (n : Int) + (m : Int) - 1, 0, ⟨#[]⟩, ⟨#[]⟩, 0⟩ : Nd)]) := ⟨by rw [List.length_append, List.length_append, List.length_map, ← HN.out, ← HN2.out]; rfl, HO5.out⟩
       have HT5 := Lib.hid ht5.tree
       have HM5 : Hid (Mild (ts ++ us.map (shiftN ts.length) ++ [(⟨kk, (n : Int) - 1, (n : Int) + (m : Int) - 1, 0, ⟨#[]⟩, ⟨#[]⟩, 0⟩ : Nd)])) := by
        refine ⟨by rw [← ht5.1]; omega, fun y hy => ?_⟩
        rcases List.mem_append.1 hy with h | h
        · rcases List.mem_append.1 h with h | h
          · exact HM.out.2 y h
          · obtain ⟨z, hz, rfl⟩ := List.mem_map.1 h
            have h9 := HM2.out.2 z hz
            rw [shiftN_t, shiftN_u]
            exact h9
        · rw [List.mem_singleton.1 h]; exact ⟨Nat.zero_le _, Nat.zero_le _⟩
       clear ht5 HO5
       go_wp2_with fail
       refine (rWhole_c HT5.out HM5.out).mono ?_
       rintro e w6 ⟨A4, n4, c4, rfl, htr, bn⟩
       have HTR := Lib.hid htr
       have HB6 := Lib.hid (below_two HB5.out bn)
       clear htr bn
       go_wp2
       go_ret
       exact ⟨_, _, _, rfl, by rw [← HLr.out, if_pos ⟨HG1.out, HG2.out, HK2.out⟩]; exact HTR.out, HB6.out⟩
end Go.Proofs.YtbddhflmknaadaaDoor

/- What the reference of layer 14 answers (Deeps), as a contract over memory. Conditions: a tree that may be, read in memory. -/
namespace Go.Proofs.YtbddhflmknaadaaDoor
open Go.RowKit Limb
set_option linter.unusedVariables false
set_option maxHeartbeats 4000000 in
set_option maxRecDepth 100000 in
theorem rDeeps_c {w : World} {A : Option Addr} {n c : Nat} {ts : List Nd} (h : TreR w A n c ts) (hg : goodT ts = true) :
 Calls Tryd.prog 20 #[.slice A n c] w fun e w' => ∃ B m d, e = .returned (.slice B m d) ∧ NumO w' w.heap.size B m d (depT ts) ∧ Below w.heap.size w w' := by
 obtain ⟨hn, hc, hcm, _⟩ := id h
 obtain ⟨g1, g2, bs, hb, hbl, _, _⟩ := good_all hg
 have H := Lib.hid h
 have HN := Lib.hid hn
 have HBe := Lib.hid hb
 have HDo := Lib.hid (depT_dep hb)
 have hn6 : n ≤ 2000 := by omega
 clear h hg hn hb hbl g1 g2
 go_enter Tryd.func20, Tryd.ntmps20
 go_wp2
 go_loopw [3, 4] (fun s i wr => ∃ (B : Option Addr) (m d : Nat) (ds : List Nat), s = .slice B m d ∧ i = .int .i64 (m : Int) ∧ m ≤ n ∧ Hid (NumO wr w.heap.size B m d ds) ∧ Hid (depT (ts.take m) = ds) ∧ Hid (Below w.heap.size w wr)) (fun _ i _ => n - (intOf i).toNat)
 case atStart => exact ⟨none, 0, 0, [], rfl, rfl, Nat.zero_le _, NumO.nil _ _, rfl, Below.refl _ _⟩
 case round =>
  obtain ⟨B, m, d, ds, rfl, rfl, hk, HO, HD, HB⟩ := hrel
  by_cases hlt : m < n
  · skip
    obtain ⟨x, hx⟩ : ∃ x, ts[m]? = some x := ⟨_, List.getElem?_eq_getElem (by rw [← HN.out]; exact hlt)⟩
    obtain ⟨s, hs, hol⟩ := step_at HBe.out hx
    have hcs := (stepB_cases hs).2
    have HNx : Hid (depT (ts.take (m + 1)) = ds ++ [depS ds x]) := by show _ = _; rw [depT_next hx, HD.out]
    have hml := HO.out.1
    have hdl : ∀ j, j < m → ds.getD j 0 ≤ j + 1 := fun j hj => by
     have h3 := (HDo.out j (by rw [depT_len, ← HN.out]; omega)).2
     rw [← depT_at (ts := ts) (i := m) (by rw [← HN.out]; exact hk) hj, HD.out] at h3
     exact h3
    have HML := Lib.hid hml
    clear hml
    obtain ⟨g, og, rfl, hgl, hin⟩ := (H.out.below HB.out).at hx
    obtain ⟨kk, a, b, j0, t, u, p⟩ := x
    have HI_x : Hid (InV wr g (og + m * 7) (ndC kk a b j0 t u p)) := hin
    have HM_x := Lib.hid (manyNd kk a b j0 t u p)
    have HU_x : Hid (Many Tryd.prog 37 (ndC kk a b j0 t u p).size ∧ zN.size = (ndC kk a b j0 t u p).size ∧ ∀ v ∈ ndC kk a b j0 t u p, v.oneCell' = true) := fitsNd ⟨kk, a, b, j0, t, u, p⟩ zNd
    have bn := below_new wr (.cells (ndC kk a b j0 t u p) 37)
    have HOs := Lib.hid (HO.out.below bn)
    have HBs := Lib.hid (below_two HB.out bn)
    clear hx hin bn HO HB hgl hs
    go_upto_region 7 with (first | (refine wpList_loadV (by rfl) _ _ (by rfl) _ _ (by rfl) _ (by assumption) (by assumption) ?_) | (refine wpList_storeNew (by rfl) _ _ _ (by rfl) _ _ _ (by rfl) (by rfl) (by assumption) ?_))
    try dsimp only [Act.put]
    have hrx := rowA_new wr 37 (ndC kk a b j0 t u p)
    generalize wr.alloc (.cells (ndC kk a b j0 t u p) 37) = wS at *
    obtain ⟨q5, hq5⟩ : ∃ g, g = wr.heap.size := ⟨_, rfl⟩
    rw [← hq5] at hrx ⊢
    clear hq5 HI_x HU_x
    have k0 := hrx.cell (k := 0) (v := .int .i64 kk) rfl
    have k1 := hrx.cell (k := 1) (v := .int .i64 a) rfl
    cases hcs with
    | leaf hkk _ =>
     dsimp only at hkk
     rcases hkk with rfl | rfl
     · skip
       have HK2 : Hid (twoK 1 = false) := by show _ = _; decide
       have HKL : Hid ((1 : Int) = 1 ∨ (1 : Int) = 2) := by show _ ∨ _; decide
       have HD2 : Hid (depT (ts.take (m + 1)) = ds ++ [1]) := by show _ = _; rw [HNx.out]; exact congrArg (fun z => ds ++ [z]) (depS_leaf HKL.out)
       have bl := below_new wS (.cells #[.int .i64 1] 3)
       have HO2 := Lib.hid (HOs.out.2.2.below bl)
       have HL2 : Hid (RowA (wS.alloc (.cells #[.int .i64 1] 3)) wS.heap.size 3 #[.int .i64 1] ∧ (#[.int .i64 1] : Array Value).size = 1 ∧ ∀ v ∈ (#[.int .i64 1] : Array Value), v.oneCell' = true) := ⟨rowA_new _ _ _, rfl, by simp [Value.oneCell']⟩
       have HE2 : Hid (m ≤ 1000000 ∧ w.heap.size ≤ (wS.alloc (.cells #[.int .i64 1] 3)).heap.size) := ⟨by omega, by have := HBs.out.size; simp; omega⟩
       have HB2 := Lib.hid (below_two HBs.out bl)
       clear bl
       clear hdl
       go_wp2_with (first | (go_at_call 25; (with_reducible refine (rTwo_c 1 false HK2.out _).mono ?_); rintro e wx ⟨rfl, rfl⟩) | (at_builtin; refine wpList_append_one rfl _ _ 41 rfl w.heap.size 3 1 num_elem _ m d _ rfl HO2 wS.heap.size rfl 3 #[.int .i64 1] HL2 HE2 ?_))
       intro A2 c2 w5 hO5 hg5
       have HB5 := Lib.hid (below_append HB2.out (Nat.le_refl _) HE2.out.2 HO2.out hg5.out)
       have HO5 : Hid (NumO w5 w.heap.size A2 (m + 1) c2 (ds ++ [1])) := by
        have h5 := hO5.out
        obtain ⟨g9, _, _, _, hc9, _⟩ := h5.cells (by omega)
        refine ⟨by rw [List.length_append, ← HML.out]; rfl, hc9, ?_⟩
        rw [List.map_append]
        exact h5
       clear hO5 hg5 HO2 HL2 HE2 HB2
       go_wp2
       go_roundw
       case rel => exact ⟨A2, m + 1, c2, ds ++ [1], rfl, by first | rfl | (go_num), hlt, HO5, HD2, HB5⟩
       case measure => simp [intOf]; omega
     · skip
       have HK2 : Hid (twoK 2 = false) := by show _ = _; decide
       have HKL : Hid ((2 : Int) = 1 ∨ (2 : Int) = 2) := by show _ ∨ _; decide
       have HD2 : Hid (depT (ts.take (m + 1)) = ds ++ [1]) := by show _ = _; rw [HNx.out]; exact congrArg (fun z => ds ++ [z]) (depS_leaf HKL.out)
       have bl := below_new wS (.cells #[.int .i64 1] 3)
       have HO2 := Lib.hid (HOs.out.2.2.below bl)
       have HL2 : Hid (RowA (wS.alloc (.cells #[.int .i64 1] 3)) wS.heap.size 3 #[.int .i64 1] ∧ (#[.int .i64 1] : Array Value).size = 1 ∧ ∀ v ∈ (#[.int .i64 1] : Array Value), v.oneCell' = true) := ⟨rowA_new _ _ _, rfl, by simp [Value.oneCell']⟩
       have HE2 : Hid (m ≤ 1000000 ∧ w.heap.size ≤ (wS.alloc (.cells #[.int .i64 1] 3)).heap.size) := ⟨by omega, by have := HBs.out.size; simp; omega⟩
       have HB2 := Lib.hid (below_two HBs.out bl)
       clear bl
       clear hdl
       go_wp2_with (first | (go_at_call 25; (with_reducible refine (rTwo_c 2 false HK2.out _).mono ?_); rintro e wx ⟨rfl, rfl⟩) | (at_builtin; refine wpList_append_one rfl _ _ 41 rfl w.heap.size 3 1 num_elem _ m d _ rfl HO2 wS.heap.size rfl 3 #[.int .i64 1] HL2 HE2 ?_))
       intro A2 c2 w5 hO5 hg5
       have HB5 := Lib.hid (below_append HB2.out (Nat.le_refl _) HE2.out.2 HO2.out hg5.out)
       have HO5 : Hid (NumO w5 w.heap.size A2 (m + 1) c2 (ds ++ [1])) := by
        have h5 := hO5.out
        obtain ⟨g9, _, _, _, hc9, _⟩ := h5.cells (by omega)
        refine ⟨by rw [List.length_append, ← HML.out]; rfl, hc9, ?_⟩
        rw [List.map_append]
        exact h5
       clear hO5 hg5 HO2 HL2 HE2 HB2
       go_wp2
       go_roundw
       case rel => exact ⟨A2, m + 1, c2, ds ++ [1], rfl, by first | rfl | (go_num), hlt, HO5, HD2, HB5⟩
       case measure => simp [intOf]; omega
    | one hkk j ha hlj _ =>
     dsimp only at hkk ha
     subst ha
     have hj : j < m := by omega
     obtain ⟨gB, rfl, cj⟩ := HOs.out.cell (j := j) (by rw [← HML.out]; exact hj)
     obtain ⟨y, hy⟩ : ∃ y, ds.getD j 0 = y := ⟨_, rfl⟩
     rw [hy] at cj
     have hy6 := hdl j hj
     rw [hy] at hy6
     have Hy := Lib.hid hy
     have h78 := oneK_iff.1 hkk
     clear hy hkk hlj
     rcases h78 with rfl | rfl
     · skip
       have HK2 : Hid (twoK 7 = false) := by show _ = _; decide
       have HD2 : Hid (depT (ts.take (m + 1)) = ds ++ [(1 + y)]) := by show _ = _; rw [HNx.out]; exact congrArg (fun z => ds ++ [z]) (by rw [depS_one (j := j) (show oneK 7 = true from by decide) rfl, Hy.out])
       have bl := below_new wS (.cells #[.int .i64 (1 + (y : Int))] 3)
       have HO2 := Lib.hid (HOs.out.2.2.below bl)
       have HL2 : Hid (RowA (wS.alloc (.cells #[.int .i64 (1 + (y : Int))] 3)) wS.heap.size 3 #[.int .i64 (1 + (y : Int))] ∧ (#[.int .i64 (1 + (y : Int))] : Array Value).size = 1 ∧ ∀ v ∈ (#[.int .i64 (1 + (y : Int))] : Array Value), v.oneCell' = true) := ⟨rowA_new _ _ _, rfl, by simp [Value.oneCell']⟩
       have HE2 : Hid (m ≤ 1000000 ∧ w.heap.size ≤ (wS.alloc (.cells #[.int .i64 (1 + (y : Int))] 3)).heap.size) := ⟨by omega, by have := HBs.out.size; simp; omega⟩
       have HB2 := Lib.hid (below_two HBs.out bl)
       clear bl
       clear hdl
       go_wp2_with (first | (go_at_call 25; (with_reducible refine (rTwo_c 7 false HK2.out _).mono ?_); rintro e wx ⟨rfl, rfl⟩) | (at_builtin; refine wpList_append_one rfl _ _ 41 rfl w.heap.size 3 1 num_elem (some ⟨gB, 0, none⟩) m d _ rfl HO2 wS.heap.size rfl 3 #[.int .i64 (1 + (y : Int))] HL2 HE2 ?_))
       intro A2 c2 w5 hO5 hg5
       have HB5 := Lib.hid (below_append HB2.out (Nat.le_refl _) HE2.out.2 HO2.out hg5.out)
       have HO5 : Hid (NumO w5 w.heap.size A2 (m + 1) c2 (ds ++ [(1 + y)])) := by
        have h5 := hO5.out
        obtain ⟨g9, _, _, _, hc9, _⟩ := h5.cells (by omega)
        refine ⟨by rw [List.length_append, ← HML.out]; rfl, hc9, ?_⟩
        rw [List.map_append]
        exact h5
       clear hO5 hg5 HO2 HL2 HE2 HB2
       go_wp2
       go_roundw
       case rel => exact ⟨A2, m + 1, c2, ds ++ [(1 + y)], rfl, by first | rfl | (go_num), hlt, HO5, HD2, HB5⟩
       case measure => simp [intOf]; omega
     · skip
       have HK2 : Hid (twoK 8 = false) := by show _ = _; decide
       have HD2 : Hid (depT (ts.take (m + 1)) = ds ++ [(1 + y)]) := by show _ = _; rw [HNx.out]; exact congrArg (fun z => ds ++ [z]) (by rw [depS_one (j := j) (show oneK 8 = true from by decide) rfl, Hy.out])
       have bl := below_new wS (.cells #[.int .i64 (1 + (y : Int))] 3)
       have HO2 := Lib.hid (HOs.out.2.2.below bl)
       have HL2 : Hid (RowA (wS.alloc (.cells #[.int .i64 (1 + (y : Int))] 3)) wS.heap.size 3 #[.int .i64 (1 + (y : Int))] ∧ (#[.int .i64 (1 + (y : Int))] : Array Value).size = 1 ∧ ∀ v ∈ (#[.int .i64 (1 + (y : Int))] : Array Value), v.oneCell' = true) := ⟨rowA_new _ _ _, rfl, by simp [Value.oneCell']⟩
       have HE2 : Hid (m ≤ 1000000 ∧ w.heap.size ≤ (wS.alloc (.cells #[.int .i64 (1 + (y : Int))] 3)).heap.size) := ⟨by omega, by have := HBs.out.size; simp; omega⟩
       have HB2 := Lib.hid (below_two HBs.out bl)
       clear bl
       clear hdl
       go_wp2_with (first | (go_at_call 25; (with_reducible refine (rTwo_c 8 false HK2.out _).mono ?_); rintro e wx ⟨rfl, rfl⟩) | (at_builtin; refine wpList_append_one rfl _ _ 41 rfl w.heap.size 3 1 num_elem (some ⟨gB, 0, none⟩) m d _ rfl HO2 wS.heap.size rfl 3 #[.int .i64 (1 + (y : Int))] HL2 HE2 ?_))
       intro A2 c2 w5 hO5 hg5
       have HB5 := Lib.hid (below_append HB2.out (Nat.le_refl _) HE2.out.2 HO2.out hg5.out)
       have HO5 : Hid (NumO w5 w.heap.size A2 (m + 1) c2 (ds ++ [(1 + y)])) := by
        have h5 := hO5.out
        obtain ⟨g9, _, _, _, hc9, _⟩ := h5.cells (by omega)
        refine ⟨by rw [List.length_append, ← HML.out]; rfl, hc9, ?_⟩
        rw [List.map_append]
        exact h5
       clear hO5 hg5 HO2 HL2 HE2 HB2
       go_wp2
       go_roundw
       case rel => exact ⟨A2, m + 1, c2, ds ++ [(1 + y)], rfl, by first | rfl | (go_num), hlt, HO5, HD2, HB5⟩
       case measure => simp [intOf]; omega
    | two hkk j i hb hlj ha hi _ =>
     dsimp only at hkk ha hb
     subst ha
     subst hb
     have hlo := (begT_low (begT_take HBe.out m)).le j
     have hj : j < m := by omega
     have hij : i < m := by omega
     obtain ⟨gB, rfl, _⟩ := HOs.out.cell (j := j) (by rw [← HML.out]; exact hj)
     obtain ⟨y, hy⟩ : ∃ y, ds.getD j 0 = y := ⟨_, rfl⟩
     obtain ⟨x, hx⟩ : ∃ x, ds.getD i 0 = x := ⟨_, rfl⟩
     have hy6 := hdl j hj
     have hx6 := hdl i hij
     rw [hy] at hy6
     rw [hx] at hx6
     obtain ⟨mx, hmx⟩ : ∃ mx, max x y = mx := ⟨_, rfl⟩
     have hmx6 : mx ≤ 2001 := by omega
     have HK2 := Lib.hid hkk
     have HDD : Hid (depS ds ⟨kk, (i : Int), (j : Int), j0, t, u, p⟩ = 1 + mx) := by show _ = _; rw [depS_two hkk rfl rfl, hx, hy, hmx]
     have HX := Lib.hid hx
     have HY := Lib.hid hy
     have HMX := Lib.hid hmx
     have hjl : j < ds.length := by rw [← HML.out]; exact hj
     have hil : i < ds.length := by rw [← HML.out]; exact hij
     have HJ := Lib.hid hjl
     have HI := Lib.hid hil
     clear hdl hlj hx hy hi hkk hmx hlo hjl hil
     go_upto_region 8 with (go_at_call 25; (with_reducible refine (rTwo_c kk true HK2.out _).mono ?_); rintro e wx ⟨rfl, rfl⟩)
     try dsimp only [Act.put]
     refine region_freed 12 1 8 [21, 22, 23, 24, 25, 26, 27, 28, 29, 30, 31, 32] ?aF1 (fun wx => Below wS.heap.size wS wx) (fun k vv wx => match k with
      | 0 => vv = .slice (some ⟨gB, 0, none⟩) m d
      | 1 => vv = .pointer (some ⟨q5, 1, none⟩)
      | 2 => vv = .int .i64 (i : Int)
      | 3 => vv = .pointer (some ⟨gB, i, none⟩)
      | 4 => vv = .int .i64 (x : Int)
      | 5 => vv = .slice (some ⟨gB, 0, none⟩) m d
      | 6 => vv = .pointer (some ⟨q5, 2, none⟩)
      | 7 => vv = .int .i64 (j : Int)
      | 8 => vv = .pointer (some ⟨gB, j, none⟩)
      | 9 => vv = .int .i64 (y : Int)
      | 10 => vv = .int .i64 (mx : Int)
      | _ => vv = .int .i64 (1 + (mx : Int)))
      (fun k => false) (by kernel_rfl) ?haF1 rfl (by kernel_rfl) (by kernel_rfl) (fun _ _ _ _ _ h => h) ?hSb1 ?hPb1 ?hS1 ?hop1 ?hfin1
     case haF1 =>
      intro vals
      simp only [fillAll, List.getElem?_cons_zero, List.getElem?_cons_succ, Act.put, List.setIfInBounds_toArray, List.set_cons_zero, List.set_cons_succ]
      exact rfl
     case hSb1 => exact fun wx w2 hb hS => below_two hS hb
     case hPb1 =>
      intro k v wa wb hb h
      match k, h with
      | 0, h => exact h
      | 1, h => exact h
      | 2, h => exact h
      | 3, h => exact h
      | 4, h => exact h
      | 5, h => exact h
      | 6, h => exact h
      | 7, h => exact h
      | 8, h => exact h
      | 9, h => exact h
      | 10, h => exact h
      | _ + 11, h => exact h
     case hS1 => exact (Below.refl _ _).drew
     case hop1 =>
      refine .cons (k := 0) (.plain rfl ?_) (.cons (k := 1) (.plain rfl ?_) (.cons (k := 2) (.plain rfl ?_) (.cons (k := 3) (.plain rfl ?_) (.cons (k := 4) (.plain rfl ?_) (.cons (k := 5) (.plain rfl ?_) (.cons (k := 6) (.plain rfl ?_) (.cons (k := 7) (.plain rfl ?_) (.cons (k := 8) (.plain rfl ?_) (.cons (k := 9) (.plain rfl ?_) (.cons (k := 10) (.plain rfl ?_) (.cons (k := 11) (.plain rfl ?_) (.nil))))))))))))
      all_goals intro vals wr hS hd KC hK
      all_goals (show Oper.wp _ _ _ _ _ _; dsimp only)
      · go_simp
        refine hK _ _ rfl (Below.refl _ _) (by first | rfl | simp) (fun h => by cases h)
      · go_simp
        refine hK _ _ rfl (Below.refl _ _) (by first | rfl | simp) (fun h => by cases h)
      · have d1 : vals 1 = _ := hd 1 (by decide +kernel)
        rw [d1]
        have z0 := (hrx.below hS).cell (k := 1) (v := .int .i64 (i : Int)) rfl
        go_simp
        refine hK _ _ rfl (Below.refl _ _) (by first | rfl | simp) (fun h => by cases h)
      · have d0 : vals 0 = _ := hd 0 (by decide +kernel)
        have d2 : vals 2 = _ := hd 2 (by decide +kernel)
        rw [d0, d2]
        have g1 : (i : Int) < (m : Int) := by omega
        go_simp
        refine hK _ _ rfl (Below.refl _ _) (by first | rfl | simp) (fun h => by cases h)
      · have d3 : vals 3 = _ := hd 3 (by decide +kernel)
        rw [d3]
        have ci : wr.cell? ⟨gB, i, none⟩ = some (.int .i64 ((ds.getD i 0 : Nat) : Int)) := by
         obtain ⟨g9, e9, c9⟩ := (HOs.out.below hS).cell HI.out
         cases e9
         exact c9
        rw [HX.out] at ci
        go_simp
        refine hK _ _ rfl (Below.refl _ _) (by first | rfl | simp) (fun h => by cases h)
      · go_simp
        refine hK _ _ rfl (Below.refl _ _) (by first | rfl | simp) (fun h => by cases h)
      · go_simp
        refine hK _ _ rfl (Below.refl _ _) (by first | rfl | simp) (fun h => by cases h)
      · have d6 : vals 6 = _ := hd 6 (by decide +kernel)
        rw [d6]
        have z0 := (hrx.below hS).cell (k := 2) (v := .int .i64 (j : Int)) rfl
        go_simp
        refine hK _ _ rfl (Below.refl _ _) (by first | rfl | simp) (fun h => by cases h)
      · have d5 : vals 5 = _ := hd 5 (by decide +kernel)
        have d7 : vals 7 = _ := hd 7 (by decide +kernel)
        rw [d5, d7]
        have g1 : (j : Int) < (m : Int) := by omega
        go_simp
        refine hK _ _ rfl (Below.refl _ _) (by first | rfl | simp) (fun h => by cases h)
      · have d8 : vals 8 = _ := hd 8 (by decide +kernel)
        rw [d8]
        have ci : wr.cell? ⟨gB, j, none⟩ = some (.int .i64 ((ds.getD j 0 : Nat) : Int)) := by
         obtain ⟨g9, e9, c9⟩ := (HOs.out.below hS).cell HJ.out
         cases e9
         exact c9
        rw [HY.out] at ci
        go_simp
        refine hK _ _ rfl (Below.refl _ _) (by first | rfl | simp) (fun h => by cases h)
      · have d4 : vals 4 = _ := hd 4 (by decide +kernel)
        have d9 : vals 9 = _ := hd 9 (by decide +kernel)
        rw [d4, d9]
        have hm1 : max (x : Int) (y : Int) = (mx : Int) := by have := HMX.out; omega
        go_simp
        refine hK _ _ rfl (Below.refl _ _) (by first | rfl | simp) (fun h => by cases h)
      · have d10 : vals 10 = _ := hd 10 (by decide +kernel)
        rw [d10]
        have hwr : IntKind.i64.wrap (1 + (mx : Int)) = 1 + (mx : Int) := by rw [IntKind.wrap_i64]; omega
        go_simp
        refine hK _ _ rfl (Below.refl _ _) (by first | rfl | simp) (fun h => by cases h)
     case hfin1 =>
      intro vals wr hS hP hne
      have ez_11 : vals 11 = _ := hP 11 (by decide)
      have HOq := Lib.hid (HOs.out.below hS)
      have HBq := Lib.hid (below_two HBs.out hS)
      have HD2 : Hid (depT (ts.take (m + 1)) = ds ++ [(1 + mx)]) := by show _ = _; rw [HNx.out]; exact congrArg (fun z => ds ++ [z]) HDD.out
      have bl := below_new wr (.cells #[.int .i64 (1 + (mx : Int))] 3)
      have HO2 := Lib.hid (HOq.out.2.2.below bl)
      have HL2 : Hid (RowA (wr.alloc (.cells #[.int .i64 (1 + (mx : Int))] 3)) wr.heap.size 3 #[.int .i64 (1 + (mx : Int))] ∧ (#[.int .i64 (1 + (mx : Int))] : Array Value).size = 1 ∧ ∀ v ∈ (#[.int .i64 (1 + (mx : Int))] : Array Value), v.oneCell' = true) := ⟨rowA_new _ _ _, rfl, by simp [Value.oneCell']⟩
      have HE2 : Hid (m ≤ 1000000 ∧ w.heap.size ≤ (wr.alloc (.cells #[.int .i64 (1 + (mx : Int))] 3)).heap.size) := ⟨by omega, by have := HBq.out.size; simp; omega⟩
      have HB2 := Lib.hid (below_two HBq.out bl)
      clear bl
      clear hS hP hne k0 k1
      try dsimp only
      rw [ez_11]
      refine wpAny_ready (rs := [12]) (by kernel_rfl) (by simp) (AllReady.cons rfl (fun KC hK => ?_) AllReady.nil)
      go_simp
      refine hK _ _ ?_
      clear hK KC
      refine wpAny_done (by kernel_rfl) ?_ _
      go_wp2_with (at_builtin; refine wpList_append_one rfl _ _ 41 rfl w.heap.size 3 1 num_elem (some ⟨gB, 0, none⟩) m d _ rfl HO2 wr.heap.size rfl 3 #[.int .i64 (1 + (mx : Int))] HL2 HE2 ?_)
      intro A2 c2 w5 hO5 hg5
      have HB5 := Lib.hid (below_append HB2.out (Nat.le_refl _) HE2.out.2 HO2.out hg5.out)
      have HO5 : Hid (NumO w5 w.heap.size A2 (m + 1) c2 (ds ++ [(1 + mx)])) := by
       have h5 := hO5.out
       obtain ⟨g9, _, _, _, hc9, _⟩ := h5.cells (by omega)
       refine ⟨by rw [List.length_append, ← HML.out]; rfl, hc9, ?_⟩
       rw [List.map_append]
       exact h5
      clear hO5 hg5 HO2 HL2 HE2 HB2
      go_wp2
      go_roundw
      case rel => exact ⟨A2, m + 1, c2, ds ++ [(1 + mx)], rfl, by first | rfl | (go_num), hlt, HO5, HD2, HB5⟩
      case measure => simp [intOf]; omega
  · obtain rfl : m = n := by omega
    have HDf : Hid (depT ts = ds) := by have h := HD.out; rw [HN.out, List.take_length] at h; exact h
    go_wp2
    go_ret
    exact ⟨B, m, d, rfl, by rw [HDf.out]; exact HO.out, HB.out⟩
end Go.Proofs.YtbddhflmknaadaaDoor

/- For every two trees and what is asked of them, TreeTells answers true and leaves its arguments as they were. Conditions: the row's own (the tables of kinds read as the program lays them; what is handed in reads in the caller's memory). -/
namespace Go.Proofs.YtbddhflmknaadaaDoor.lawTreeTells
open Go.ChangeShapes Go.WideShapes Go.ChangeAt Go.RowKit Limb
set_option linter.unusedVariables false
theorem pack_any {R : Option (List Nd)} {L : List Nd} {n : Nat} (h : R = Option.none ∨ ∃ x us, packR x us = R) (hL : R.getD [] = L) (hn : n = L.length) : decide ((0 : Int) < (n : Int)) = R.isSome ∧ decide (0 < n) = R.isSome := by
 rcases h with rfl | ⟨x, us, h⟩
 · subst hL hn
   exact ⟨by decide, by decide⟩
 · exact pack_some h hL hn
theorem join_any {v : Int} {ts us : List Nd} {n m : Nat} {R : Option (List Nd)} (hn : n = ts.length) (hm : m = us.length) (hR : (if twoK v = true then packR ⟨v, (n : Int) - 1, (n : Int) + (m : Int) - 1, 0, ⟨#[]⟩, ⟨#[]⟩, 0⟩ [ts, us] else Option.none) = R) :
 (if goodT ts = true ∧ goodT us = true ∧ twoK v = true then wholeT (ts ++ us.map (shiftN ts.length) ++ [⟨v, (n : Int) - 1, (n : Int) + (m : Int) - 1, 0, ⟨#[]⟩, ⟨#[]⟩, 0⟩]) else []) = R.getD [] ∧ (R = Option.none ∨ ∃ x us, packR x us = R) := by
 by_cases hk : twoK v = true
 · rw [if_pos hk] at hR
   refine ⟨?_, .inr ⟨_, _, hR⟩⟩
   subst hn hm hR
   have h := join_eq (ts := ts) (us := us) (x := ⟨v, (ts.length : Int) - 1, (ts.length : Int) + (us.length : Int) - 1, 0, ⟨#[]⟩, ⟨#[]⟩, 0⟩) hk (fun h => by have := (good_all h).1; show _ - _ = _; omega) (fun h h' => by have := (good_all h).1; show _ - _ = _; omega)
   rw [h]
   by_cases hg : goodT ts = true ∧ goodT us = true
   · rw [if_pos hg, if_pos ⟨hg.1, hg.2, hk⟩]
   · rw [if_neg hg, if_neg (fun h => hg ⟨h.1, h.2.1⟩)]
 · rw [if_neg hk] at hR
   subst hR
   exact ⟨if_neg (fun h => hk h.2.2), .inl rfl⟩
theorem over_any {v j : Int} {ts : List Nd} {n : Nat} {R : Option (List Nd)} (hk : oneK v = true) (hn : n = ts.length) (hR : packR ⟨v, (n : Int) - 1, 0, j, ⟨#[]⟩, ⟨#[]⟩, 0⟩ [ts] = R) :
 (if goodT ts = true then wholeT (ts ++ [⟨v, (n : Int) - 1, 0, j, ⟨#[]⟩, ⟨#[]⟩, 0⟩]) else []) = R.getD [] ∧ (R = Option.none ∨ ∃ x us, packR x us = R) := by
 refine ⟨?_, .inr ⟨_, _, hR⟩⟩
 subst hn hR
 exact (over_eq (ts := ts) (x := ⟨v, (ts.length : Int) - 1, 0, j, ⟨#[]⟩, ⟨#[]⟩, 0⟩) hk (fun h => by have := (good_all h).1; show _ - _ = _; omega)).symm
theorem leaf_any {v : Int} {t u : ByteArray} {R : Option (List Nd)} (hk : v = 1 ∨ v = 2) (hR : packR ⟨v, 0, 0, 0, t, u, 0⟩ [] = R) : wholeT [⟨v, 0, 0, 0, t, u, 0⟩] = R.getD [] ∧ (R = Option.none ∨ ∃ x us, packR x us = R) := by
 refine ⟨?_, .inr ⟨_, _, hR⟩⟩
 subst hR
 exact (leaf_eq (x := ⟨v, 0, 0, 0, t, u, 0⟩) hk).symm
theorem deep_none {ts : List Nd} (h : goodT ts = false) : deepI ts = 0 := if_neg (by rw [h]; decide)
theorem deep_some {ts : List Nd} (h : goodT ts = true) : deepI ts = (depT ts).getD (ts.length - 1) 0 := if_pos h
set_option maxHeartbeats 4000000 in
set_option maxRecDepth 100000 in
theorem walk (A_a : Option Addr) (n_a c_a : Nat) (ts_a : List Nd) (A_b : Option Addr) (n_b c_b : Nat) (ts_b : List Nd) (s_x u_x : ByteArray) (v_x j_x : Int) (w : World) (h_a : TreR w A_a n_a c_a ts_a) (h_b : TreR w A_b n_b c_b ts_b) (z_x : s_x.size ≤ maxLen) (y_x : u_x.size ≤ maxLen) (f_x : (Lit.int .i64 v_x).wf = true) (g_x : (Lit.int .i64 j_x).wf = true) (HT : XTab w) :
 Calls Tryd.prog 3 #[.slice A_a n_a c_a, .slice A_b n_b c_b, .agg #[.string s_x, .string u_x, .int .i64 v_x, .int .i64 j_x]] w fun e w' => e = .returned (.bool true) ∧ Below w.heap.size w w' := by
 have HT0 := Lib.hid HT
 clear HT
 have bw := bel_refl w
 clear f_x g_x
 obtain ⟨lg_a, hlg_a⟩ : ∃ b, largeT ts_a = b := ⟨_, rfl⟩
 have HL_a := Lib.hid hlg_a
 clear hlg_a
 obtain ⟨gd_a, hgd_a⟩ : ∃ b, goodT ts_a = b := ⟨_, rfl⟩
 have HG_a := Lib.hid hgd_a
 clear hgd_a
 obtain ⟨lg_b, hlg_b⟩ : ∃ b, largeT ts_b = b := ⟨_, rfl⟩
 have HL_b := Lib.hid hlg_b
 clear hlg_b
 obtain ⟨gd_b, hgd_b⟩ : ∃ b, goodT ts_b = b := ⟨_, rfl⟩
 have HG_b := Lib.hid hgd_b
 clear hgd_b
 have h_rx := rowA_new w 25 #[.string s_x, .string u_x, .int .i64 v_x, .int .i64 j_x]
 have bn := below_new w (.cells #[.string s_x, .string u_x, .int .i64 v_x, .int .i64 j_x] 25)
 replace h_a := h_a.below bn
 replace h_b := h_b.below bn
 replace bw := below_two bw bn
 clear bn
 go_enter Tryd.func3, Tryd.ntmps3
 go_wp2_with fail
 generalize w.alloc (.cells #[.string s_x, .string u_x, .int .i64 v_x, .int .i64 j_x] 25) = w0 at *
 refine (kLarge_c h_a lg_a HL_a.out).mono ?_
 rintro e w1 ⟨rfl, bn⟩
 replace h_a := h_a.below bn
 replace h_b := h_b.below bn
 replace h_rx := h_rx.below bn
 replace bw := below_two bw bn
 clear bn
 cases lg_a with
 | true =>
  go_wp2_with fail
  refine (wakes_any w1 (Lib.hid (HT0.out.below bw))).mono ?_
  rintro e w99 ⟨rfl, bn⟩
  replace bw := below_two bw bn
  clear bn
  go_wp2
  go_ret
  exact ⟨rfl, bw⟩
 | false =>
  have HM_a := Lib.hid (mild_small HL_a.out)
  go_wp2_with fail
  refine (kLarge_c h_b lg_b HL_b.out).mono ?_
  rintro e w2 ⟨rfl, bn⟩
  replace h_a := h_a.below bn
  replace h_b := h_b.below bn
  replace h_rx := h_rx.below bn
  replace bw := below_two bw bn
  clear bn
  cases lg_b with
  | true =>
   go_wp2_with fail
   refine (wakes_any w2 (Lib.hid (HT0.out.below bw))).mono ?_
   rintro e w99 ⟨rfl, bn⟩
   replace bw := below_two bw bn
   clear bn
   go_wp2
   go_ret
   exact ⟨rfl, bw⟩
  | false =>
   have HM_b := Lib.hid (mild_small HL_b.out)
   by_cases hl1 : 600 < s_x.size
   · have e1 : decide ((600 : Int) < (s_x.size : Int)) = true := decide_eq_true (by omega)
     have e2 : decide (600 < s_x.size) = true := decide_eq_true hl1
     have x0 := h_rx.cell (k := 0) (v := .string s_x) rfl
     have x1 := h_rx.cell (k := 1) (v := .string u_x) rfl
     go_wp2_with fail
     refine (wakes_any w2 (Lib.hid (HT0.out.below bw))).mono ?_
     rintro e w99 ⟨rfl, bn⟩
     replace bw := below_two bw bn
     clear bn
     go_wp2
     go_ret
     exact ⟨rfl, bw⟩
   · have e1 : decide ((600 : Int) < (s_x.size : Int)) = false := decide_eq_false (by omega)
     have e2 : decide (600 < s_x.size) = false := decide_eq_false hl1
     by_cases hl3 : 600 < u_x.size
     · have e3 : decide ((600 : Int) < (u_x.size : Int)) = true := decide_eq_true (by omega)
       have e4 : decide (600 < u_x.size) = true := decide_eq_true hl3
       have x0 := h_rx.cell (k := 0) (v := .string s_x) rfl
       have x1 := h_rx.cell (k := 1) (v := .string u_x) rfl
       go_wp2_with fail
       refine (wakes_any w2 (Lib.hid (HT0.out.below bw))).mono ?_
       rintro e w99 ⟨rfl, bn⟩
       replace bw := below_two bw bn
       clear bn
       go_wp2
       go_ret
       exact ⟨rfl, bw⟩
     · have e3 : decide ((600 : Int) < (u_x.size : Int)) = false := decide_eq_false (by omega)
       have e4 : decide (600 < u_x.size) = false := decide_eq_false hl3
       have n6_a : n_a ≤ 1000000 := by rw [h_a.1]; exact HM_a.out.1
       have HN_a := Lib.hid h_a.1
       have n6_b : n_b ≤ 1000000 := by rw [h_b.1]; exact HM_b.out.1
       have HN_b := Lib.hid h_b.1
       have HSU : Hid (s_x.size ≤ 1000000 ∧ u_x.size ≤ 1000000) := ⟨by omega, by omega⟩
       obtain ⟨R1, hR1⟩ : ∃ R, (packR ⟨1, 0, 0, 0, s_x, u_x, 0⟩ []) = R := ⟨_, rfl⟩
       obtain ⟨ea1, eo1⟩ := leaf_any (.inl rfl) hR1
       have HR1 := Lib.hid hR1
       have HEA1 := Lib.hid ea1
       have HEO1 := Lib.hid eo1
       clear hR1 ea1 eo1
       obtain ⟨b1, hb1⟩ : ∃ b, R1.isSome = b := ⟨_, rfl⟩
       obtain ⟨R2, hR2⟩ : ∃ R, (packR ⟨2, 0, 0, 0, s_x, ⟨#[]⟩, 0⟩ []) = R := ⟨_, rfl⟩
       obtain ⟨ea2, eo2⟩ := leaf_any (.inr rfl) hR2
       have HR2 := Lib.hid hR2
       have HEA2 := Lib.hid ea2
       have HEO2 := Lib.hid eo2
       clear hR2 ea2 eo2
       obtain ⟨b2, hb2⟩ : ∃ b, R2.isSome = b := ⟨_, rfl⟩
       obtain ⟨R3, hR3⟩ : ∃ R, (if twoK v_x = true then packR ⟨v_x, (n_a : Int) - 1, (n_a : Int) + (n_b : Int) - 1, 0, ⟨#[]⟩, ⟨#[]⟩, 0⟩ [ts_a, ts_b] else Option.none) = R := ⟨_, rfl⟩
       obtain ⟨ea3, eo3⟩ := join_any HN_a.out HN_b.out hR3
       have HR3 := Lib.hid hR3
       have HEA3 := Lib.hid ea3
       have HEO3 := Lib.hid eo3
       clear hR3 ea3 eo3
       obtain ⟨b3, hb3⟩ : ∃ b, R3.isSome = b := ⟨_, rfl⟩
       obtain ⟨R4, hR4⟩ : ∃ R, (packR ⟨7, (n_a : Int) - 1, 0, 0, ⟨#[]⟩, ⟨#[]⟩, 0⟩ [ts_a]) = R := ⟨_, rfl⟩
       obtain ⟨ea4, eo4⟩ := over_any (by decide) HN_a.out hR4
       have HR4 := Lib.hid hR4
       have HEA4 := Lib.hid ea4
       have HEO4 := Lib.hid eo4
       clear hR4 ea4 eo4
       obtain ⟨b4, hb4⟩ : ∃ b, R4.isSome = b := ⟨_, rfl⟩
       obtain ⟨R5, hR5⟩ : ∃ R, (packR ⟨8, (n_a : Int) - 1, 0, j_x, ⟨#[]⟩, ⟨#[]⟩, 0⟩ [ts_a]) = R := ⟨_, rfl⟩
       obtain ⟨ea5, eo5⟩ := over_any (by decide) HN_a.out hR5
       have HR5 := Lib.hid hR5
       have HEA5 := Lib.hid ea5
       have HEO5 := Lib.hid eo5
       clear hR5 ea5 eo5
       obtain ⟨b5, hb5⟩ : ∃ b, R5.isSome = b := ⟨_, rfl⟩
       have x0 := h_rx.cell (k := 0) (v := .string s_x) rfl
       have x1 := h_rx.cell (k := 1) (v := .string u_x) rfl
       have x2 := h_rx.cell (k := 2) (v := .int .i64 v_x) rfl
       have x3 := h_rx.cell (k := 3) (v := .int .i64 j_x) rfl
       go_wp2_with fail
       refine (kOwnT_c h_a n6_a).mono ?_
       rintro e w3 ⟨A_p, c_p, rfl, hO, bn⟩
       have h_p := hO.tree
       replace h_a := h_a.below bn
       replace h_b := h_b.below bn
       replace h_rx := h_rx.below bn
       replace bw := below_two bw bn
       clear bn
       clear hO
       clear x0 x1 x2 x3
       have x0 := h_rx.cell (k := 0) (v := .string s_x) rfl
       have x1 := h_rx.cell (k := 1) (v := .string u_x) rfl
       have x2 := h_rx.cell (k := 2) (v := .int .i64 v_x) rfl
       have x3 := h_rx.cell (k := 3) (v := .int .i64 j_x) rfl
       go_wp2_with fail
       refine (kOwnT_c h_b n6_b).mono ?_
       rintro e w4 ⟨A_q, c_q, rfl, hO, bn⟩
       have h_q := hO.tree
       replace h_a := h_a.below bn
       replace h_b := h_b.below bn
       replace h_rx := h_rx.below bn
       replace h_p := h_p.below bn
       replace bw := below_two bw bn
       clear bn
       clear hO
       clear x0 x1 x2 x3
       have x0 := h_rx.cell (k := 0) (v := .string s_x) rfl
       have x1 := h_rx.cell (k := 1) (v := .string u_x) rfl
       have x2 := h_rx.cell (k := 2) (v := .int .i64 v_x) rfl
       have x3 := h_rx.cell (k := 3) (v := .int .i64 j_x) rfl
       go_wp2_with fail
       refine (tLit_c s_x u_x HSU.out.1 HSU.out.2 (HT0.out.below bw) R1 HR1.out).mono ?_
       rintro e w5 ⟨A_l1, n_l1, c_l1, rfl, h_tl1, bn⟩
       replace h_a := h_a.below bn
       replace h_b := h_b.below bn
       replace h_rx := h_rx.below bn
       replace h_p := h_p.below bn
       replace h_q := h_q.below bn
       replace bw := below_two bw bn
       clear bn
       clear x0 x1 x2 x3
       have x0 := h_rx.cell (k := 0) (v := .string s_x) rfl
       have x1 := h_rx.cell (k := 1) (v := .string u_x) rfl
       have x2 := h_rx.cell (k := 2) (v := .int .i64 v_x) rfl
       have x3 := h_rx.cell (k := 3) (v := .int .i64 j_x) rfl
       go_wp2_with fail
       refine (tRef_c s_x HSU.out.1 (HT0.out.below bw) R2 HR2.out).mono ?_
       rintro e w6 ⟨A_l2, n_l2, c_l2, rfl, h_tl2, bn⟩
       replace h_a := h_a.below bn
       replace h_b := h_b.below bn
       replace h_rx := h_rx.below bn
       replace h_p := h_p.below bn
       replace h_q := h_q.below bn
       replace h_tl1 := h_tl1.below bn
       replace bw := below_two bw bn
       clear bn
       clear x0 x1 x2 x3
       have x0 := h_rx.cell (k := 0) (v := .string s_x) rfl
       have x1 := h_rx.cell (k := 1) (v := .string u_x) rfl
       have x2 := h_rx.cell (k := 2) (v := .int .i64 v_x) rfl
       have x3 := h_rx.cell (k := 3) (v := .int .i64 j_x) rfl
       go_wp2_with fail
       refine (tJoin_c v_x (HT0.out.below bw) h_p HM_a.out h_q HM_b.out R3 (fun hk => by rw [← HR3.out, if_pos hk]) (fun hk => by rw [← HR3.out, if_neg (by rw [hk]; decide)])).mono ?_
       rintro e w7 ⟨A_l3, n_l3, c_l3, rfl, h_tl3, bn⟩
       replace h_a := h_a.below bn
       replace h_b := h_b.below bn
       replace h_rx := h_rx.below bn
       replace h_p := h_p.below bn
       replace h_q := h_q.below bn
       replace h_tl1 := h_tl1.below bn
       replace h_tl2 := h_tl2.below bn
       replace bw := below_two bw bn
       clear bn
       clear x0 x1 x2 x3
       have x0 := h_rx.cell (k := 0) (v := .string s_x) rfl
       have x1 := h_rx.cell (k := 1) (v := .string u_x) rfl
       have x2 := h_rx.cell (k := 2) (v := .int .i64 v_x) rfl
       have x3 := h_rx.cell (k := 3) (v := .int .i64 j_x) rfl
       go_wp2_with fail
       refine (tNeg_c (HT0.out.below bw) h_p HM_a.out R4 HR4.out).mono ?_
       rintro e w8 ⟨A_l4, n_l4, c_l4, rfl, h_tl4, bn⟩
       replace h_a := h_a.below bn
       replace h_b := h_b.below bn
       replace h_rx := h_rx.below bn
       replace h_p := h_p.below bn
       replace h_q := h_q.below bn
       replace h_tl1 := h_tl1.below bn
       replace h_tl2 := h_tl2.below bn
       replace h_tl3 := h_tl3.below bn
       replace bw := below_two bw bn
       clear bn
       clear x0 x1 x2 x3
       have x0 := h_rx.cell (k := 0) (v := .string s_x) rfl
       have x1 := h_rx.cell (k := 1) (v := .string u_x) rfl
       have x2 := h_rx.cell (k := 2) (v := .int .i64 v_x) rfl
       have x3 := h_rx.cell (k := 3) (v := .int .i64 j_x) rfl
       go_wp2_with fail
       refine (tPow_c j_x (HT0.out.below bw) h_p HM_a.out R5 HR5.out).mono ?_
       rintro e w9 ⟨A_l5, n_l5, c_l5, rfl, h_tl5, bn⟩
       replace h_a := h_a.below bn
       replace h_b := h_b.below bn
       replace h_rx := h_rx.below bn
       replace h_p := h_p.below bn
       replace h_q := h_q.below bn
       replace h_tl1 := h_tl1.below bn
       replace h_tl2 := h_tl2.below bn
       replace h_tl3 := h_tl3.below bn
       replace h_tl4 := h_tl4.below bn
       replace bw := below_two bw bn
       clear bn
       clear x0 x1 x2 x3
       go_wp2_with fail
       generalize w9 = wS at *
       refine region_freed 21 5 12 [83, 84, 85, 86, 87, 88, 89, 90, 91, 92, 93, 94, 95, 96, 97, 98, 99, 100, 101, 102, 103] ?aF1 (fun wx => Below wS.heap.size wS wx) (fun k vv wx => match k with
        | 0 => vv = .pointer (some ⟨w.heap.size, 0, none⟩)
        | 1 => vv = .string s_x
        | 2 => vv = .pointer (some ⟨w.heap.size, 1, none⟩)
        | 3 => vv = .string u_x
        | 4 => vv = .agg (ndC 1 0 0 0 s_x u_x 0)
        | 5 => ∃ (e0 : Option Addr) (e1 : Nat) (e2 : Nat), vv = .slice e0 e1 e2 ∧ TreR wx e0 e1 e2 (wholeT [⟨1, 0, 0, 0, s_x, u_x, 0⟩])
        | 6 => vv = .pointer (some ⟨w.heap.size, 0, none⟩)
        | 7 => vv = .string s_x
        | 8 => vv = .agg (ndC 2 0 0 0 s_x ⟨#[]⟩ 0)
        | 9 => ∃ (e0 : Option Addr) (e1 : Nat) (e2 : Nat), vv = .slice e0 e1 e2 ∧ TreR wx e0 e1 e2 (wholeT [⟨2, 0, 0, 0, s_x, ⟨#[]⟩, 0⟩])
        | 10 => vv = .pointer (some ⟨w.heap.size, 2, none⟩)
        | 11 => vv = .int .i64 v_x
        | 12 => vv = .slice A_a n_a c_a
        | 13 => vv = .slice A_b n_b c_b
        | 14 => ∃ (e0 : Option Addr) (e1 : Nat) (e2 : Nat), vv = .slice e0 e1 e2 ∧ TreR wx e0 e1 e2 (if goodT ts_a = true ∧ goodT ts_b = true ∧ twoK v_x = true then wholeT (ts_a ++ ts_b.map (shiftN ts_a.length) ++ [⟨v_x, (n_a : Int) - 1, (n_a : Int) + (n_b : Int) - 1, 0, ⟨#[]⟩, ⟨#[]⟩, 0⟩]) else [])
        | 15 => vv = .slice A_a n_a c_a
        | 16 => ∃ (e0 : Option Addr) (e1 : Nat) (e2 : Nat), vv = .slice e0 e1 e2 ∧ TreR wx e0 e1 e2 (if goodT ts_a = true then wholeT (ts_a ++ [⟨7, (n_a : Int) - 1, 0, 0, ⟨#[]⟩, ⟨#[]⟩, 0⟩]) else [])
        | 17 => vv = .slice A_a n_a c_a
        | 18 => vv = .pointer (some ⟨w.heap.size, 3, none⟩)
        | 19 => vv = .int .i64 j_x
        | _ => ∃ (e0 : Option Addr) (e1 : Nat) (e2 : Nat), vv = .slice e0 e1 e2 ∧ TreR wx e0 e1 e2 (if goodT ts_a = true then wholeT (ts_a ++ [⟨8, (n_a : Int) - 1, 0, j_x, ⟨#[]⟩, ⟨#[]⟩, 0⟩]) else []))
        (fun k => false) (by kernel_rfl) ?haF1 rfl (by kernel_rfl) (by kernel_rfl) (fun _ _ _ _ _ h => h) ?hSb1 ?hPb1 ?hS1 ?hop1 ?hfin1
       case haF1 =>
        intro vals
        simp only [fillAll, List.getElem?_cons_zero, List.getElem?_cons_succ, Act.put, List.setIfInBounds_toArray, List.set_cons_zero, List.set_cons_succ]
        exact rfl
       case hSb1 => exact fun wx w2 hb hS => below_two hS hb
       case hPb1 =>
        intro k v wa wb hb h
        match k, h with
        | 0, h => exact h
        | 1, h => exact h
        | 2, h => exact h
        | 3, h => exact h
        | 4, h => exact h
        | 5, ⟨e0, e1, e2, h1, g0⟩ => exact ⟨e0, e1, e2, h1, g0.below hb⟩
        | 6, h => exact h
        | 7, h => exact h
        | 8, h => exact h
        | 9, ⟨e0, e1, e2, h1, g0⟩ => exact ⟨e0, e1, e2, h1, g0.below hb⟩
        | 10, h => exact h
        | 11, h => exact h
        | 12, h => exact h
        | 13, h => exact h
        | 14, ⟨e0, e1, e2, h1, g0⟩ => exact ⟨e0, e1, e2, h1, g0.below hb⟩
        | 15, h => exact h
        | 16, ⟨e0, e1, e2, h1, g0⟩ => exact ⟨e0, e1, e2, h1, g0.below hb⟩
        | 17, h => exact h
        | 18, h => exact h
        | 19, h => exact h
        | _ + 20, ⟨e0, e1, e2, h1, g0⟩ => exact ⟨e0, e1, e2, h1, g0.below hb⟩
       case hS1 => exact (Below.refl _ _).drew
       case hop1 =>
        refine .cons (k := 0) (.plain rfl ?_) (.cons (k := 1) (.plain rfl ?_) (.cons (k := 2) (.plain rfl ?_) (.cons (k := 3) (.plain rfl ?_) (.cons (k := 4) (.plain rfl ?_) (.cons (k := 5) (.plain rfl ?_) (.cons (k := 6) (.plain rfl ?_) (.cons (k := 7) (.plain rfl ?_) (.cons (k := 8) (.plain rfl ?_) (.cons (k := 9) (.plain rfl ?_) (.cons (k := 10) (.plain rfl ?_) (.cons (k := 11) (.plain rfl ?_) (.cons (k := 12) (.plain rfl ?_) (.cons (k := 13) (.plain rfl ?_) (.cons (k := 14) (.plain rfl ?_) (.cons (k := 15) (.plain rfl ?_) (.cons (k := 16) (.plain rfl ?_) (.cons (k := 17) (.plain rfl ?_) (.cons (k := 18) (.plain rfl ?_) (.cons (k := 19) (.plain rfl ?_) (.cons (k := 20) (.plain rfl ?_) (.nil)))))))))))))))))))))
        all_goals intro vals wr hS hd KC hK
        all_goals (show Oper.wp _ _ _ _ _ _; dsimp only)
        · go_simp
          refine hK _ _ rfl (Below.refl _ _) (by first | rfl | simp) (fun h => by cases h)
        · have d0 : vals 0 = _ := hd 0 (by decide +kernel)
          rw [d0]
          have z0 := (h_rx.below hS).cell (k := 0) (v := .string s_x) rfl
          go_simp
          refine hK _ _ rfl (Below.refl _ _) (by first | rfl | simp) (fun h => by cases h)
        · go_simp
          refine hK _ _ rfl (Below.refl _ _) (by first | rfl | simp) (fun h => by cases h)
        · have d2 : vals 2 = _ := hd 2 (by decide +kernel)
          rw [d2]
          have z0 := (h_rx.below hS).cell (k := 1) (v := .string u_x) rfl
          go_simp
          refine hK _ _ rfl (Below.refl _ _) (by first | rfl | simp) (fun h => by cases h)
        · have d1 : vals 1 = _ := hd 1 (by decide +kernel)
          have d3 : vals 3 = _ := hd 3 (by decide +kernel)
          rw [d1, d3]
          refine wp_buildV _ _ rfl [(0, .int .i64 1), (4, .string s_x), (5, .string u_x)] (by rfl) (ndC 1 0 0 0 s_x u_x 0) (Lib.hid (fun W => by kernel_rfl)) ?_
          refine hK _ _ rfl (Below.refl _ _) (by first | rfl | simp) (fun h => by cases h)
        · have d4 : vals 4 = _ := hd 4 (by decide +kernel)
          rw [d4]
          go_simp
          go_at_call 15
          with_reducible refine (rLeaf_c 1 0 0 0 s_x u_x 0 HSU.out.1 HSU.out.2 wr).mono ?_
          rintro e w2 ⟨r0, r1, r2, rfl, f0, bn_r⟩
          refine hK _ _ rfl bn_r ⟨_, _, _, rfl, f0⟩ (fun h => by cases h)
        · go_simp
          refine hK _ _ rfl (Below.refl _ _) (by first | rfl | simp) (fun h => by cases h)
        · have d6 : vals 6 = _ := hd 6 (by decide +kernel)
          rw [d6]
          have z0 := (h_rx.below hS).cell (k := 0) (v := .string s_x) rfl
          go_simp
          refine hK _ _ rfl (Below.refl _ _) (by first | rfl | simp) (fun h => by cases h)
        · have d7 : vals 7 = _ := hd 7 (by decide +kernel)
          rw [d7]
          refine wp_buildV _ _ rfl [(0, .int .i64 2), (4, .string s_x)] (by rfl) (ndC 2 0 0 0 s_x ⟨#[]⟩ 0) (Lib.hid (fun W => by kernel_rfl)) ?_
          refine hK _ _ rfl (Below.refl _ _) (by first | rfl | simp) (fun h => by cases h)
        · have d8 : vals 8 = _ := hd 8 (by decide +kernel)
          rw [d8]
          go_simp
          go_at_call 15
          with_reducible refine (rLeaf_c 2 0 0 0 s_x ⟨#[]⟩ 0 HSU.out.1 (by decide) wr).mono ?_
          rintro e w2 ⟨r0, r1, r2, rfl, f0, bn_r⟩
          refine hK _ _ rfl bn_r ⟨_, _, _, rfl, f0⟩ (fun h => by cases h)
        · go_simp
          refine hK _ _ rfl (Below.refl _ _) (by first | rfl | simp) (fun h => by cases h)
        · have d10 : vals 10 = _ := hd 10 (by decide +kernel)
          rw [d10]
          have z0 := (h_rx.below hS).cell (k := 2) (v := .int .i64 v_x) rfl
          go_simp
          refine hK _ _ rfl (Below.refl _ _) (by first | rfl | simp) (fun h => by cases h)
        · go_simp
          refine hK _ _ rfl (Below.refl _ _) (by first | rfl | simp) (fun h => by cases h)
        · go_simp
          refine hK _ _ rfl (Below.refl _ _) (by first | rfl | simp) (fun h => by cases h)
        · have d11 : vals 11 = _ := hd 11 (by decide +kernel)
          have d12 : vals 12 = _ := hd 12 (by decide +kernel)
          have d13 : vals 13 = _ := hd 13 (by decide +kernel)
          rw [d11, d12, d13]
          go_simp
          go_at_call 16
          with_reducible refine (rJoin_c v_x (h_a.below hS) HM_a.out (h_b.below hS) HM_b.out _ rfl).mono ?_
          rintro e w2 ⟨r0, r1, r2, rfl, f0, bn_r⟩
          refine hK _ _ rfl bn_r ⟨_, _, _, rfl, f0⟩ (fun h => by cases h)
        · go_simp
          refine hK _ _ rfl (Below.refl _ _) (by first | rfl | simp) (fun h => by cases h)
        · have d15 : vals 15 = _ := hd 15 (by decide +kernel)
          rw [d15]
          go_simp
          go_at_call 17
          with_reducible refine (rOver_c 7 0 (h_a.below hS) HM_a.out).mono ?_
          rintro e w2 ⟨r0, r1, r2, rfl, f0, bn_r⟩
          refine hK _ _ rfl bn_r ⟨_, _, _, rfl, f0⟩ (fun h => by cases h)
        · go_simp
          refine hK _ _ rfl (Below.refl _ _) (by first | rfl | simp) (fun h => by cases h)
        · go_simp
          refine hK _ _ rfl (Below.refl _ _) (by first | rfl | simp) (fun h => by cases h)
        · have d18 : vals 18 = _ := hd 18 (by decide +kernel)
          rw [d18]
          have z0 := (h_rx.below hS).cell (k := 3) (v := .int .i64 j_x) rfl
          go_simp
          refine hK _ _ rfl (Below.refl _ _) (by first | rfl | simp) (fun h => by cases h)
        · have d17 : vals 17 = _ := hd 17 (by decide +kernel)
          have d19 : vals 19 = _ := hd 19 (by decide +kernel)
          rw [d17, d19]
          go_simp
          go_at_call 17
          with_reducible refine (rOver_c 8 j_x (h_a.below hS) HM_a.out).mono ?_
          rintro e w2 ⟨r0, r1, r2, rfl, f0, bn_r⟩
          refine hK _ _ rfl bn_r ⟨_, _, _, rfl, f0⟩ (fun h => by cases h)
       case hfin1 =>
        intro vals wr hS hP hne
        obtain ⟨A_5_0, n_5_1, n_5_2, ez_5, h_5_0⟩ := hP 5 (by decide)
        obtain ⟨A_9_0, n_9_1, n_9_2, ez_9, h_9_0⟩ := hP 9 (by decide)
        obtain ⟨A_14_0, n_14_1, n_14_2, ez_14, h_14_0⟩ := hP 14 (by decide)
        obtain ⟨A_16_0, n_16_1, n_16_2, ez_16, h_16_0⟩ := hP 16 (by decide)
        obtain ⟨A_20_0, n_20_1, n_20_2, ez_20, h_20_0⟩ := hP 20 (by decide)
        have h_i1 := h_5_0
        rw [HEA1.out] at h_i1
        obtain ⟨pb1, pc1⟩ := pack_any HEO1.out rfl h_i1.1
        rw [hb1] at pb1 pc1
        have pd1 : (b1 != b1) = false := bne_self_eq_false b1
        clear h_5_0
        have h_i2 := h_9_0
        rw [HEA2.out] at h_i2
        obtain ⟨pb2, pc2⟩ := pack_any HEO2.out rfl h_i2.1
        rw [hb2] at pb2 pc2
        have pd2 : (b2 != b2) = false := bne_self_eq_false b2
        clear h_9_0
        have h_i3 := h_14_0
        rw [HEA3.out] at h_i3
        obtain ⟨pb3, pc3⟩ := pack_any HEO3.out rfl h_i3.1
        rw [hb3] at pb3 pc3
        have pd3 : (b3 != b3) = false := bne_self_eq_false b3
        clear h_14_0
        have h_i4 := h_16_0
        rw [HEA4.out] at h_i4
        obtain ⟨pb4, pc4⟩ := pack_any HEO4.out rfl h_i4.1
        rw [hb4] at pb4 pc4
        have pd4 : (b4 != b4) = false := bne_self_eq_false b4
        clear h_16_0
        have h_i5 := h_20_0
        rw [HEA5.out] at h_i5
        obtain ⟨pb5, pc5⟩ := pack_any HEO5.out rfl h_i5.1
        rw [hb5] at pb5 pc5
        have pd5 : (b5 != b5) = false := bne_self_eq_false b5
        clear h_20_0
        have bn := hS
        replace h_a := h_a.below bn
        replace h_b := h_b.below bn
        replace h_rx := h_rx.below bn
        replace h_p := h_p.below bn
        replace h_q := h_q.below bn
        replace h_tl1 := h_tl1.below bn
        replace h_tl2 := h_tl2.below bn
        replace h_tl3 := h_tl3.below bn
        replace h_tl4 := h_tl4.below bn
        replace h_tl5 := h_tl5.below bn
        replace bw := below_two bw bn
        clear bn
        clear hS hP hne
        try dsimp only
        rw [ez_5, ez_9, ez_14, ez_16, ez_20]
        refine wpAny_ready (rs := [21]) (by kernel_rfl) (by simp) (AllReady.cons rfl (fun KC hK => ?_) AllReady.nil)
        go_simp
        refine hK _ _ ?_
        clear hK KC
        refine wpAny_ready (rs := [22]) (by kernel_rfl) (by simp) (AllReady.cons rfl (fun KC hK => ?_) AllReady.nil)
        go_simp
        refine hK _ _ ?_
        clear hK KC
        refine wpAny_ready (rs := [23]) (by kernel_rfl) (by simp) (AllReady.cons rfl (fun KC hK => ?_) AllReady.nil)
        go_simp
        refine hK _ _ ?_
        clear hK KC
        refine wpAny_ready (rs := [24]) (by kernel_rfl) (by simp) (AllReady.cons rfl (fun KC hK => ?_) AllReady.nil)
        go_simp
        refine hK _ _ ?_
        clear hK KC
        refine wpAny_ready (rs := [25]) (by kernel_rfl) (by simp) (AllReady.cons rfl (fun KC hK => ?_) AllReady.nil)
        go_simp
        refine hK _ _ ?_
        clear hK KC
        refine wpAny_done (by kernel_rfl) ?_ _
        go_wp2_with fail
        refine (kTree_c h_tl1 h_i1 true (eqT_iff.2 rfl)).mono ?_
        rintro e w10 ⟨rfl, bn⟩
        replace h_a := h_a.below bn
        replace h_b := h_b.below bn
        replace h_rx := h_rx.below bn
        replace h_p := h_p.below bn
        replace h_q := h_q.below bn
        replace h_tl1 := h_tl1.below bn
        replace h_tl2 := h_tl2.below bn
        replace h_tl3 := h_tl3.below bn
        replace h_tl4 := h_tl4.below bn
        replace h_tl5 := h_tl5.below bn
        replace h_i1 := h_i1.below bn
        replace h_i2 := h_i2.below bn
        replace h_i3 := h_i3.below bn
        replace h_i4 := h_i4.below bn
        replace h_i5 := h_i5.below bn
        replace bw := below_two bw bn
        clear bn
        go_wp2_with fail
        refine (kTree_c h_tl2 h_i2 true (eqT_iff.2 rfl)).mono ?_
        rintro e w11 ⟨rfl, bn⟩
        replace h_a := h_a.below bn
        replace h_b := h_b.below bn
        replace h_rx := h_rx.below bn
        replace h_p := h_p.below bn
        replace h_q := h_q.below bn
        replace h_tl1 := h_tl1.below bn
        replace h_tl2 := h_tl2.below bn
        replace h_tl3 := h_tl3.below bn
        replace h_tl4 := h_tl4.below bn
        replace h_tl5 := h_tl5.below bn
        replace h_i1 := h_i1.below bn
        replace h_i2 := h_i2.below bn
        replace h_i3 := h_i3.below bn
        replace h_i4 := h_i4.below bn
        replace h_i5 := h_i5.below bn
        replace bw := below_two bw bn
        clear bn
        go_wp2_with fail
        refine (kTree_c h_tl3 h_i3 true (eqT_iff.2 rfl)).mono ?_
        rintro e w12 ⟨rfl, bn⟩
        replace h_a := h_a.below bn
        replace h_b := h_b.below bn
        replace h_rx := h_rx.below bn
        replace h_p := h_p.below bn
        replace h_q := h_q.below bn
        replace h_tl1 := h_tl1.below bn
        replace h_tl2 := h_tl2.below bn
        replace h_tl3 := h_tl3.below bn
        replace h_tl4 := h_tl4.below bn
        replace h_tl5 := h_tl5.below bn
        replace h_i1 := h_i1.below bn
        replace h_i2 := h_i2.below bn
        replace h_i3 := h_i3.below bn
        replace h_i4 := h_i4.below bn
        replace h_i5 := h_i5.below bn
        replace bw := below_two bw bn
        clear bn
        go_wp2_with fail
        refine (kTree_c h_tl4 h_i4 true (eqT_iff.2 rfl)).mono ?_
        rintro e w13 ⟨rfl, bn⟩
        replace h_a := h_a.below bn
        replace h_b := h_b.below bn
        replace h_rx := h_rx.below bn
        replace h_p := h_p.below bn
        replace h_q := h_q.below bn
        replace h_tl1 := h_tl1.below bn
        replace h_tl2 := h_tl2.below bn
        replace h_tl3 := h_tl3.below bn
        replace h_tl4 := h_tl4.below bn
        replace h_tl5 := h_tl5.below bn
        replace h_i1 := h_i1.below bn
        replace h_i2 := h_i2.below bn
        replace h_i3 := h_i3.below bn
        replace h_i4 := h_i4.below bn
        replace h_i5 := h_i5.below bn
        replace bw := below_two bw bn
        clear bn
        go_wp2_with fail
        refine (kTree_c h_tl5 h_i5 true (eqT_iff.2 rfl)).mono ?_
        rintro e w14 ⟨rfl, bn⟩
        replace h_a := h_a.below bn
        replace h_b := h_b.below bn
        replace h_rx := h_rx.below bn
        replace h_p := h_p.below bn
        replace h_q := h_q.below bn
        replace h_tl1 := h_tl1.below bn
        replace h_tl2 := h_tl2.below bn
        replace h_tl3 := h_tl3.below bn
        replace h_tl4 := h_tl4.below bn
        replace h_tl5 := h_tl5.below bn
        replace h_i1 := h_i1.below bn
        replace h_i2 := h_i2.below bn
        replace h_i3 := h_i3.below bn
        replace h_i4 := h_i4.below bn
        replace h_i5 := h_i5.below bn
        replace bw := below_two bw bn
        clear bn
        go_wp2_with fail
        clear pb1 pc1 pd1 hb1 h_tl1 h_i1 pb2 pc2 pd2 hb2 h_tl2 h_i2 pb3 pc3 pd3 hb3 h_tl3 h_i3 pb4 pc4 pd4 hb4 h_tl4 h_i4 pb5 pc5 pd5 hb5 h_tl5 h_i5
        refine (rTGood_c h_a HM_a.out gd_a HG_a.out).mono ?_
        rintro e w15 ⟨rfl, bn⟩
        replace h_a := h_a.below bn
        replace h_b := h_b.below bn
        replace h_rx := h_rx.below bn
        replace h_p := h_p.below bn
        replace h_q := h_q.below bn
        replace bw := below_two bw bn
        clear bn
        obtain ⟨sm, hsm⟩ : ∃ b, sameT ts_a ts_b = b := ⟨_, rfl⟩
        have HSM := Lib.hid hsm
        have HSM2 : Hid (eqT (ts_a.map bareN) (ts_b.map bareN) = sm) := by show _ = _; rw [← same_bare]; exact hsm
        clear hsm
        cases gd_a with
        | false =>
         have HDa := Lib.hid (deep_none HG_a.out)
         go_wp2_with fail
         refine (tGood_c h_p HM_a.out (HT0.out.below bw) false HG_a.out).mono ?_
         rintro e w16 ⟨rfl, bn⟩
         replace h_a := h_a.below bn
         replace h_b := h_b.below bn
         replace h_rx := h_rx.below bn
         replace h_p := h_p.below bn
         replace h_q := h_q.below bn
         replace bw := below_two bw bn
         clear bn
         go_wp2_with fail
         refine (rTGood_c h_a HM_a.out false HG_a.out).mono ?_
         rintro e w17 ⟨rfl, bn⟩
         replace h_a := h_a.below bn
         replace h_b := h_b.below bn
         replace h_rx := h_rx.below bn
         replace h_p := h_p.below bn
         replace h_q := h_q.below bn
         replace bw := below_two bw bn
         clear bn
         go_wp2_with fail
         refine (tDeep_c h_p HM_a.out (HT0.out.below bw) 0 HDa.out).mono ?_
         rintro e w18 ⟨rfl, bn⟩
         replace h_a := h_a.below bn
         replace h_b := h_b.below bn
         replace h_rx := h_rx.below bn
         replace h_p := h_p.below bn
         replace h_q := h_q.below bn
         replace bw := below_two bw bn
         clear bn
         go_wp2_with fail
         refine (tSame_c h_p h_q sm HSM.out).mono ?_
         rintro e w19 ⟨rfl, bn⟩
         replace h_a := h_a.below bn
         replace h_b := h_b.below bn
         replace h_rx := h_rx.below bn
         replace h_p := h_p.below bn
         replace h_q := h_q.below bn
         replace bw := below_two bw bn
         clear bn
         go_wp2_with fail
         refine (kBare_c h_a n6_a).mono ?_
         rintro e w20 ⟨A_ba, c_ba, rfl, hO, bn⟩
         have h_ba := hO.tree
         clear hO
         replace h_a := h_a.below bn
         replace h_b := h_b.below bn
         replace h_rx := h_rx.below bn
         replace h_p := h_p.below bn
         replace h_q := h_q.below bn
         replace bw := below_two bw bn
         clear bn
         go_wp2_with fail
         refine (kBare_c h_b n6_b).mono ?_
         rintro e w21 ⟨A_bb, c_bb, rfl, hO, bn⟩
         have h_bb := hO.tree
         clear hO
         replace h_a := h_a.below bn
         replace h_b := h_b.below bn
         replace h_rx := h_rx.below bn
         replace h_p := h_p.below bn
         replace h_q := h_q.below bn
         replace h_ba := h_ba.below bn
         replace bw := below_two bw bn
         clear bn
         go_wp2_with fail
         refine (kTree_c h_ba h_bb sm HSM2.out).mono ?_
         rintro e w22 ⟨rfl, bn⟩
         replace h_a := h_a.below bn
         replace h_b := h_b.below bn
         replace h_rx := h_rx.below bn
         replace h_p := h_p.below bn
         replace h_q := h_q.below bn
         replace h_ba := h_ba.below bn
         replace h_bb := h_bb.below bn
         replace bw := below_two bw bn
         clear bn
         have esm : (sm == sm) = true := beq_self_eq_true sm
         go_wp2_with fail
         refine (kTree_c h_p h_a true (eqT_iff.2 rfl)).mono ?_
         rintro e w23 ⟨rfl, bn⟩
         replace h_a := h_a.below bn
         replace h_b := h_b.below bn
         replace h_rx := h_rx.below bn
         replace h_p := h_p.below bn
         replace h_q := h_q.below bn
         replace h_ba := h_ba.below bn
         replace h_bb := h_bb.below bn
         replace bw := below_two bw bn
         clear bn
         go_wp2_with fail
         refine (kTree_c h_q h_b true (eqT_iff.2 rfl)).mono ?_
         rintro e w24 ⟨rfl, bn⟩
         replace h_a := h_a.below bn
         replace h_b := h_b.below bn
         replace h_rx := h_rx.below bn
         replace h_p := h_p.below bn
         replace h_q := h_q.below bn
         replace h_ba := h_ba.below bn
         replace h_bb := h_bb.below bn
         replace bw := below_two bw bn
         clear bn
         go_wp2_with fail
         refine (wakes_any w24 (Lib.hid (HT0.out.below bw))).mono ?_
         rintro e w99 ⟨rfl, bn⟩
         replace bw := below_two bw bn
         clear bn
         go_wp2
         go_ret
         exact ⟨rfl, bw⟩
        | true =>
         have hg1 := (good_all HG_a.out).1
         rw [← HN_a.out] at hg1
         obtain ⟨da, hda⟩ : ∃ d, deepI ts_a = d := ⟨_, rfl⟩
         have HDa := Lib.hid hda
         obtain ⟨j1, hj1⟩ : ∃ j, n_a = j + 1 := ⟨n_a - 1, by omega⟩
         have HJ1 := Lib.hid hj1
         clear hda hj1
         go_wp2_with fail
         refine (rDeeps_c h_a HG_a.out).mono ?_
         rintro e w16 ⟨B_d, m_d, d_d, rfl, hO, bn⟩
         replace h_a := h_a.below bn
         replace h_b := h_b.below bn
         replace h_rx := h_rx.below bn
         replace h_p := h_p.below bn
         replace h_q := h_q.below bn
         replace bw := below_two bw bn
         clear bn
         obtain ⟨g_d, ed, cd⟩ := hO.cell (j := j1) (by rw [depT_len, ← HN_a.out, HJ1.out]; omega)
         subst ed
         have hmd : (m_d : Int) = (j1 : Int) + 1 := by have h := hO.1; rw [depT_len, ← HN_a.out, HJ1.out] at h; omega
         have hmj : m_d = j1 + 1 := by omega
         subst hmj
         clear hmd
         have hv : (depT ts_a).getD j1 0 = da := by rw [← HDa.out, deep_some HG_a.out, ← HN_a.out, HJ1.out, Nat.add_sub_cancel]
         rw [hv] at cd
         have hmi : (((j1 + 1 : Nat)) : Int) - 1 = (j1 : Int) := by omega
         have hmi2 : (j1 : Int) + 1 - 1 = (j1 : Int) := by omega
         have hj16 : j1 ≤ 1000000 := by have := HJ1.out; omega
         clear hO hv
         go_wp2_with fail
         refine (tGood_c h_p HM_a.out (HT0.out.below bw) true HG_a.out).mono ?_
         rintro e w17 ⟨rfl, bn⟩
         replace h_a := h_a.below bn
         replace h_b := h_b.below bn
         replace h_rx := h_rx.below bn
         replace h_p := h_p.below bn
         replace h_q := h_q.below bn
         replace bw := below_two bw bn
         clear bn
         go_wp2_with fail
         refine (rTGood_c h_a HM_a.out true HG_a.out).mono ?_
         rintro e w18 ⟨rfl, bn⟩
         replace h_a := h_a.below bn
         replace h_b := h_b.below bn
         replace h_rx := h_rx.below bn
         replace h_p := h_p.below bn
         replace h_q := h_q.below bn
         replace bw := below_two bw bn
         clear bn
         go_wp2_with fail
         refine (tDeep_c h_p HM_a.out (HT0.out.below bw) da HDa.out).mono ?_
         rintro e w19 ⟨rfl, bn⟩
         replace h_a := h_a.below bn
         replace h_b := h_b.below bn
         replace h_rx := h_rx.below bn
         replace h_p := h_p.below bn
         replace h_q := h_q.below bn
         replace bw := below_two bw bn
         clear bn
         go_wp2_with fail
         refine (tSame_c h_p h_q sm HSM.out).mono ?_
         rintro e w20 ⟨rfl, bn⟩
         replace h_a := h_a.below bn
         replace h_b := h_b.below bn
         replace h_rx := h_rx.below bn
         replace h_p := h_p.below bn
         replace h_q := h_q.below bn
         replace bw := below_two bw bn
         clear bn
         go_wp2_with fail
         refine (kBare_c h_a n6_a).mono ?_
         rintro e w21 ⟨A_ba, c_ba, rfl, hO, bn⟩
         have h_ba := hO.tree
         clear hO
         replace h_a := h_a.below bn
         replace h_b := h_b.below bn
         replace h_rx := h_rx.below bn
         replace h_p := h_p.below bn
         replace h_q := h_q.below bn
         replace bw := below_two bw bn
         clear bn
         go_wp2_with fail
         refine (kBare_c h_b n6_b).mono ?_
         rintro e w22 ⟨A_bb, c_bb, rfl, hO, bn⟩
         have h_bb := hO.tree
         clear hO
         replace h_a := h_a.below bn
         replace h_b := h_b.below bn
         replace h_rx := h_rx.below bn
         replace h_p := h_p.below bn
         replace h_q := h_q.below bn
         replace h_ba := h_ba.below bn
         replace bw := below_two bw bn
         clear bn
         go_wp2_with fail
         refine (kTree_c h_ba h_bb sm HSM2.out).mono ?_
         rintro e w23 ⟨rfl, bn⟩
         replace h_a := h_a.below bn
         replace h_b := h_b.below bn
         replace h_rx := h_rx.below bn
         replace h_p := h_p.below bn
         replace h_q := h_q.below bn
         replace h_ba := h_ba.below bn
         replace h_bb := h_bb.below bn
         replace bw := below_two bw bn
         clear bn
         have esm : (sm == sm) = true := beq_self_eq_true sm
         go_wp2_with fail
         refine (kTree_c h_p h_a true (eqT_iff.2 rfl)).mono ?_
         rintro e w24 ⟨rfl, bn⟩
         replace h_a := h_a.below bn
         replace h_b := h_b.below bn
         replace h_rx := h_rx.below bn
         replace h_p := h_p.below bn
         replace h_q := h_q.below bn
         replace h_ba := h_ba.below bn
         replace h_bb := h_bb.below bn
         replace bw := below_two bw bn
         clear bn
         go_wp2_with fail
         refine (kTree_c h_q h_b true (eqT_iff.2 rfl)).mono ?_
         rintro e w25 ⟨rfl, bn⟩
         replace h_a := h_a.below bn
         replace h_b := h_b.below bn
         replace h_rx := h_rx.below bn
         replace h_p := h_p.below bn
         replace h_q := h_q.below bn
         replace h_ba := h_ba.below bn
         replace h_bb := h_bb.below bn
         replace bw := below_two bw bn
         clear bn
         go_wp2_with fail
         refine (wakes_any w25 (Lib.hid (HT0.out.below bw))).mono ?_
         rintro e w99 ⟨rfl, bn⟩
         replace bw := below_two bw bn
         clear bn
         go_wp2
         go_ret
         exact ⟨rfl, bw⟩
theorem tab_of {W : World} (h : laidMet Tryd.prog Rows.treeTellsRow.laid W) : XTab W := by
 refine ⟨?_, ?_⟩
 · first | exact kinds_tab (laidMet_drop 0 h) (by decide +kernel) | exact kinds_tab (laidMet_drop 1 h) (by decide +kernel) | exact kinds_tab (laidMet_drop 2 h) (by decide +kernel) | exact kinds_tab (laidMet_drop 3 h) (by decide +kernel) | exact kinds_tab (laidMet_drop 4 h) (by decide +kernel) | exact kinds_tab (laidMet_drop 5 h) (by decide +kernel) | exact kinds_tab (laidMet_drop 6 h) (by decide +kernel) | exact kinds_tab (laidMet_drop 7 h) (by decide +kernel) | exact kinds_tab (laidMet_drop 8 h) (by decide +kernel) | exact kinds_tab (laidMet_drop 9 h) (by decide +kernel) | exact kinds_tab (laidMet_drop 10 h) (by decide +kernel) | exact kinds_tab (laidMet_drop 11 h) (by decide +kernel) | exact kinds_tab (laidMet_drop 12 h) (by decide +kernel) | exact kinds_tab (laidMet_drop 13 h) (by decide +kernel)
 · first | exact lkinds_tab (laidMet_drop 0 h) (by decide +kernel) | exact lkinds_tab (laidMet_drop 1 h) (by decide +kernel) | exact lkinds_tab (laidMet_drop 2 h) (by decide +kernel) | exact lkinds_tab (laidMet_drop 3 h) (by decide +kernel) | exact lkinds_tab (laidMet_drop 4 h) (by decide +kernel) | exact lkinds_tab (laidMet_drop 5 h) (by decide +kernel) | exact lkinds_tab (laidMet_drop 6 h) (by decide +kernel) | exact lkinds_tab (laidMet_drop 7 h) (by decide +kernel) | exact lkinds_tab (laidMet_drop 8 h) (by decide +kernel) | exact lkinds_tab (laidMet_drop 9 h) (by decide +kernel) | exact lkinds_tab (laidMet_drop 10 h) (by decide +kernel) | exact lkinds_tab (laidMet_drop 11 h) (by decide +kernel) | exact lkinds_tab (laidMet_drop 12 h) (by decide +kernel) | exact lkinds_tab (laidMet_drop 13 h) (by decide +kernel)
set_option maxRecDepth 100000 in
theorem lifted (os : Os) (started : os.Started) (H : Type) (enc : TypeId × Value → H) :
 ReturnsInHanded {} Tryd.checked os 3 .any (fun w args => (Rows.treeTellsSpec.pre enc Tryd.prog Tryd.f3 [] false w args ∧ laidMetH Tryd.prog Rows.treeTellsRow.laid w) ∧ sizedMet enc Tryd.prog Tryd.f3 (OpenSpec.ofChange Rows.treeTellsSpec) false w args)
  (Rows.treeTellsSpec.post enc Tryd.prog Tryd.f3 false true false false) := by
 refine returnsInHanded_of_change_and (C := Tryd.checked) (X := fun w _ => laidMetH Tryd.prog Rows.treeTellsRow.laid w) (fun _ _ _ hh h => h.of_heap hh) own started (by kernel_rfl) Tryd.func3
  (ChangeSpec.witness_shaped (enc := enc) (C := Tryd.checked) (os := os) (X := fun w _ => laidMetH Tryd.prog Rows.treeTellsRow.laid w) false (World.laidAll Tryd.prog os Rows.treeTellsRow.laid) #[.slice none 0 0, .slice none 0 0, .agg #[.string ⟨#[]⟩, .string ⟨#[]⟩, .int .i64 0, .int .i64 0]] 8 (World.laidAll_os _ _ _)
    (World.shaped_of_ZipB (by kernel_rfl) (by kernel_rfl)) (by kernel_rfl) (by kernel_rfl) (by kernel_rfl)
    (by rw [MakeChecks.laidMetH_plain _ _ _ (by kernel_rfl)]; exact laidMet_laidAll _ (by kernel_rfl) (by kernel_rfl))) ?_
 intro W base args ds gs before hval0 hW _ _ hL _
 have hval : ∀ (j : Nat) t v, Tryd.f3.params[j]? = some t → args[j]? = some v → Value.okWide Tryd.prog W .any base t v := hval0
 have hW' := hW
 obtain ⟨p, q, hA0, hV, rfl, hfz, hnd⟩ := hW
 have hA : DataW.TrodAll enc Tryd.prog W 0 (fun _ => true) true Tryd.f3.params.toList args.toList ds p := hA0
 rw [Tryd.params3] at hA hval
 obtain ⟨v0, vs0, d0, ds0, p0, q0, hargs, rfl, rfl, h0, r0⟩ := trodAll_cons hA
 obtain ⟨v1, vs1, d1, ds1, p1, q1, rfl, rfl, rfl, h1, r1⟩ := trodAll_cons r0
 obtain ⟨v2, vs2, d2, ds2, p2, q2, rfl, rfl, rfl, h2, r2⟩ := trodAll_cons r1
 obtain ⟨rfl, rfl, rfl⟩ := trodAll_nil r2
 obtain rfl : args = #[v0, v1, v2] := by cases args; simp_all
 obtain ⟨rfl, rfl⟩ := trodVars_none hV
 obtain ⟨a0, len0, cap0, rfl⟩ := okWide_slice Tryd.underlying23 (hval 0 23 v0 rfl rfl)
 obtain ⟨z0, i0⟩ := open_tree h0
 obtain ⟨a1, len1, cap1, rfl⟩ := okWide_slice Tryd.underlying23 (hval 1 23 v1 rfl rfl)
 obtain ⟨z1, i1⟩ := open_tree h1
 obtain ⟨a2, b2, c2, e2, rfl, w2, y2, u2, t2⟩ := open_askT (hval 2 25 v2 rfl rfl) h2
 clear hA0 hval0
 simp only [List.append_nil] at hW'
 rw [MakeChecks.laidMetH_plain _ _ _ (by kernel_rfl)] at hL
 refine (walk a0 len0 cap0 z0 a1 len1 cap1 z1 a2 b2 c2 e2 W i0 i1 w2 y2 u2 t2 (tab_of hL)).mono fun e W' ⟨he, bel⟩ => ?_
 subst he
 exact ⟨_, rfl, _, _, _, [], _, [], hW', trodAll_mk1 (shut_bool Tryd.underlying4 _), (trodAll_cons_mk (Below.trod laidOut (by kernel_rfl) (of_decide_eq_true (by kernel_rfl)) h0 bel (places_lt h0)) (trodAll_cons_mk (Below.trod laidOut (by kernel_rfl) (of_decide_eq_true (by kernel_rfl)) h1 bel (places_lt h1)) (trodAll_cons_mk (Below.trod laidOut (by kernel_rfl) (of_decide_eq_true (by kernel_rfl)) h2 bel (places_lt h2)) trodAll_mk0))), rfl, bel.frame _, fun h => by cases h⟩
theorem over : Rows.treeTellsRow.holds Tryd.pinned (OpenSpec.ofChange Rows.treeTellsSpec) :=
 OpenClaim.holds_of_wide 3 Tryd.f3 rfl rfl rfl rfl rfl rfl rfl ⟨rfl, rfl, rfl, rfl, rfl⟩ rfl rfl rfl rfl rfl (by kernel_rfl) Tryd.func3 (by kernel_rfl)
  (of_decide_eq_true (by kernel_rfl)) (by unfold Func.isWrapper; first | (rw [if_pos (by decide +kernel)]; kernel_rfl) | (rw [if_neg (by decide +kernel)]; exact ⟨rfl, rfl⟩))
  (fun os started H enc _ => lifted os started H enc)
theorem proved : Rows.TreeTellsCardSaid :=
 Claim7.holds_tied_plain_at .later [] Rows.treeTellsCard.laidKinds true Rows.treeTellsCard.stood.harness Rows.treeTellsCard.stood.looks
  over (fun _ h => by cases h) (by kernel_rfl) (fun _ h => by cases h) treeTells_row_tie rfl ⟨rfl, rfl⟩ (by kernel_rfl) rfl
  (fun f fn hf hfn => by
    obtain rfl : f = 3 := Option.some.inj ((show Tryd.prog.funcNamed Rows.treeTellsRow.func = some 3 by kernel_rfl).symm.trans hf) |>.symm
    obtain rfl : fn = Tryd.f3 := (Option.some.inj (Tryd.func3.symm.trans hfn)).symm
    exact ⟨by kernel_rfl, fun j t ht => by
     have hm : t ∈ Tryd.f3.params.toList := by simpa using Array.mem_of_getElem? ht
     have hall : (Tryd.f3.params.toList.all fun u => !Tryd.prog.wantsStandIn u) = true := by kernel_rfl
     exact (show Tryd.prog.wantsStandIn t = false by simpa using List.all_eq_true.1 hall t hm)⟩)
  (by kernel_rfl)
end Go.Proofs.YtbddhflmknaadaaDoor.lawTreeTells
