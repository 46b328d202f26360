/- For every tree that comes in, TreeLeaves answers true and leaves its argument as it was. Conditions: the row's own (the tables of kinds read as the program lays them; what is handed in reads in the caller's memory). -/
import Derived.Test.YtbddhflmknaadaaDoorM5
import Derived.Test.YtbddhflmknaadaaDoorCards
import Derived.Test.YtbddhflmknaadaaDoorTie
import Derived.ChangeMaps5
import Derived.Lay
import Derived.SevenTiedAt
/- For every tree that comes in, TreeLeaves answers true and leaves its argument as it was. Conditions: the row's own (the tables of kinds read as the program lays them; what is handed in reads in the caller's memory). -/
namespace Go.Proofs.YtbddhflmknaadaaDoor.lawTreeLeaves
open Go.ChangeShapes Go.WideShapes Go.ChangeAt Go.RowKit Limb
set_option linter.unusedVariables false
def kidL (ts : List Nd) (n i : Nat) : List Int := (List.range n).map fun j => ((kids (ts.take i) j : Nat) : Int)
theorem len_kidL (ts : List Nd) (n i : Nat) : (kidL ts n i).length = n := by simp [kidL]
theorem kidL_get {ts : List Nd} {n i j : Nat} (h : j < n) : (kidL ts n i).getD j 0 = ((kids (ts.take i) j : Nat) : Int) := by simp [kidL, List.getD_eq_getElem?_getD, h]
theorem kidL_zero (ts : List Nd) (n : Nat) : kidL ts n 0 = List.replicate n 0 := by
 apply List.ext_getElem
 · simp [kidL]
 · intro j h1 h2
   simp [kidL, kids]
theorem kids_next {ts : List Nd} {i : Nat} {x : Nd} (hx : ts[i]? = some x) (j : Nat) : kids (ts.take (i + 1)) j = kids (ts.take i) j + kidN j x := by rw [List.take_add_one, hx, Option.toList_some, kids_snoc]
theorem leafC_next {ts : List Nd} {i : Nat} {x : Nd} (hx : ts[i]? = some x) : leafC (ts.take (i + 1)) = leafC (ts.take i) + (if leafK x = true then 1 else 0) := by rw [List.take_add_one, hx, Option.toList_some, leafC_snoc]
theorem twoC_next {ts : List Nd} {i : Nat} {x : Nd} (hx : ts[i]? = some x) : twoC (ts.take (i + 1)) = twoC (ts.take i) + (if twoK x.k = true then 1 else 0) := by rw [List.take_add_one, hx, Option.toList_some, twoC_snoc]
theorem kidL_leaf {ts : List Nd} {n i : Nat} {x : Nd} (hx : ts[i]? = some x) (h1 : twoK x.k = false) (h2 : oneK x.k = false) : kidL ts n (i + 1) = kidL ts n i := by
 unfold kidL
 refine List.map_congr_left fun j _ => ?_
 rw [kids_next hx, kidN_leaf h1 h2, Nat.add_zero]
theorem kidL_one {ts : List Nd} {n i a : Nat} {x : Nd} (hx : ts[i]? = some x) (hk : oneK x.k = true) (ha : x.a = (a : Int)) (hn : a < n) : kidL ts n (i + 1) = (kidL ts n i).set a (((kids (ts.take i) a : Nat) : Int) + 1) := by
 apply List.ext_getElem
 · simp [kidL]
 · intro j h1 h2
   have hj : j < n := by simpa [kidL] using h1
   rw [List.getElem_set]
   simp only [kidL, List.getElem_map, List.getElem_range]
   rw [kids_next hx]
   unfold kidN
   rw [if_neg (by rw [one_not_two hk]; decide), if_pos hk, ha]
   by_cases e : a = j
   · subst e; rw [if_pos rfl, if_pos rfl]; simp
   · rw [if_neg (by omega), if_neg e, Nat.add_zero]
theorem kidL_two {ts : List Nd} {n i a b : Nat} {x : Nd} (hx : ts[i]? = some x) (hk : twoK x.k = true) (ha : x.a = (a : Int)) (hb : x.b = (b : Int)) (hab : a < b) (hn : b < n) : kidL ts n (i + 1) = ((kidL ts n i).set a (((kids (ts.take i) a : Nat) : Int) + 1)).set b (((kids (ts.take i) b : Nat) : Int) + 1) := by
 apply List.ext_getElem
 · simp [kidL]
 · intro j h1 h2
   have hj : j < n := by simpa [kidL] using h1
   rw [List.getElem_set, List.getElem_set]
   simp only [kidL, List.getElem_map, List.getElem_range]
   rw [kids_next hx]
   unfold kidN
   rw [if_pos hk, ha, hb]
   by_cases e : b = j
   · subst e; rw [if_pos rfl, if_neg (by omega), if_pos rfl]; simp
   · rw [if_neg e]
     by_cases e2 : a = j
     · subst e2; rw [if_pos rfl, if_pos rfl, if_neg (by omega)]; simp
     · rw [if_neg (by omega), if_neg e2, if_neg (by omega), Nat.add_zero]
theorem kids_low (ts : List Nd) (j : Nat) : kids ts j ≤ 2 * ts.length := by
 induction ts with
 | nil => exact Nat.zero_le _
 | cons x ts ih =>
  have h1 : kidN j x ≤ 2 := by unfold kidN; repeat' split
                               all_goals omega
  have h2 : kids (x :: ts) j = kidN j x + kids ts j := by simp [kids]
  rw [h2, List.length_cons]; omega
def HidNe (g q : Nat) : Prop := g ≠ q
theorem HidNe.of {g q : Nat} (h : g ≠ q) : HidNe g q := h
theorem kind_clash {w : World} {q o : Nat} {x : Nd} {xs : List Int} (h : RowA w q 3 (ints .i64 xs)) (hi : InV w q o (ndV x)) : False := by
 have h1 := hi 4 (.string x.t) rfl
 unfold RowA at h
 simp only [World.cell?, h] at h1
 have h2 : (ints .i64 xs)[o + 4]? = some (.string x.t) := h1
 have h3 := Array.mem_of_getElem? h2
 simp only [ints, List.mem_toArray, List.mem_map] at h3
 obtain ⟨y, _, e⟩ := h3
 cases e
theorem clash_far {w : World} {g q i o : Nat} {v u : Value} (hne : HidNe g q) (h : w.cell? ⟨g, o, none⟩ = some u) : (w.setCell ⟨q, i, none⟩ v).cell? ⟨g, o, none⟩ = some u := by
 have hne2 : q ≠ g := fun e => hne e.symm
 simp only [World.cell?, World.setCell, Array.getElem?_modify] at h ⊢
 rw [if_neg hne2]
 exact h
set_option maxHeartbeats 4000000 in
set_option maxRecDepth 100000 in
theorem walk (A_s : Option Addr) (n_s c_s : Nat) (ts_s : List Nd) (w : World) (h_s : TreR w A_s n_s c_s ts_s) (HT : XTab w) :
 Calls Tryd.prog 6 #[.slice A_s n_s c_s] w fun e w' => e = .returned (.bool true) ∧ Below w.heap.size w w' := by
 have HT0 := Lib.hid HT
 clear HT
 obtain ⟨lg, hlg⟩ : ∃ b, largeT ts_s = b := ⟨_, rfl⟩
 have HL := Lib.hid hlg
 have H := Lib.hid h_s
 clear hlg h_s
 go_enter Tryd.func6, Tryd.ntmps6
 go_wp2_with fail
 refine (kLarge_c H.out lg HL.out).mono ?_
 rintro e w1 ⟨rfl, bn⟩
 have HB := Lib.hid bn
 clear bn
 cases lg with
 | true =>
  go_wp2_with fail
  refine (wakes_any w1 (Lib.hid (HT0.out.below HB.out))).mono ?_
  rintro e w9 ⟨rfl, bn⟩
  have HB9 := Lib.hid (below_two HB.out bn)
  clear bn
  go_wp2
  go_ret
  exact ⟨rfl, HB9.out⟩
 | false =>
  have HM := Lib.hid (mild_small HL.out)
  obtain ⟨gd, hgd⟩ : ∃ b, goodT ts_s = b := ⟨_, rfl⟩
  have HG := Lib.hid hgd
  clear hgd
  go_wp2_with fail
  refine (rTGood_c (H.out.below HB.out) HM.out gd HG.out).mono ?_
  rintro e w2 ⟨rfl, bn⟩
  replace HB := Lib.hid (below_two HB.out bn)
  clear bn
  cases gd with
  | false =>
   go_wp2_with fail
   refine (wakes_any w2 (Lib.hid (HT0.out.below HB.out))).mono ?_
   rintro e w9 ⟨rfl, bn⟩
   have HB9 := Lib.hid (below_two HB.out bn)
   clear bn
   go_wp2
   go_ret
   exact ⟨rfl, HB9.out⟩
  | true =>
   obtain ⟨d1, d2, bs, hbe, hbl, hlow, _⟩ := good_all HG.out
   have hn := H.out.1
   have HN := Lib.hid hn
   rw [← hn] at d1 d2
   have HBe := Lib.hid hbe
   have hmk := made_int w2 n_s (by omega)
   have bw := below_new w2 (.cells (ints .i64 (List.replicate n_s 0)) 3)
   have HC0 : Hid (RowA (w2.alloc (.cells (ints .i64 (List.replicate n_s 0)) 3)) w2.heap.size 3 (ints .i64 (kidL ts_s n_s 0))) := by show RowA _ _ _ _; rw [kidL_zero]; exact rowA_new _ _ _
   have HQ : Hid (w.heap.size ≤ w2.heap.size) := HB.out.size
   have HB0 := Lib.hid (below_two HB.out bw)
   clear hn hbe hbl hlow bw HB
   go_wp2
   generalize w2.alloc (.cells (ints .i64 (List.replicate n_s 0)) 3) = w3 at *
   generalize w2.heap.size = q at *
   clear hmk
   go_loopw [3, 4, 6] (fun l t i wr => ∃ i0 le tw : Nat, l = .int .i64 (le : Int) ∧ t = .int .i64 (tw : Int) ∧ i = .int .i64 (i0 : Int) ∧ i0 ≤ n_s ∧ le ≤ i0 ∧ tw ≤ i0 ∧ Hid (leafC (ts_s.take i0) = le ∧ twoC (ts_s.take i0) = tw) ∧ Hid (RowA wr q 3 (ints .i64 (kidL ts_s n_s i0))) ∧ Hid (Below w.heap.size w wr)) (fun _ _ i _ => n_s - (intOf i).toNat)
   case atStart => exact ⟨0, 0, 0, rfl, rfl, rfl, Nat.zero_le _, by omega, by omega, ⟨rfl, rfl⟩, HC0, HB0⟩
   case round =>
    obtain ⟨i, le, tw, rfl, rfl, rfl, hi, hle, htw, HCt, HC, HB⟩ := hrel
    by_cases hlt : i < n_s
    · skip
      obtain ⟨x, hx⟩ : ∃ x, ts_s[i]? = some x := ⟨_, List.getElem?_eq_getElem (by rw [← HN.out]; exact hlt)⟩
      have HX := Lib.hid hx
      obtain ⟨s, hs, hol⟩ := step_at HBe.out hx
      have hcs := (stepB_cases hs).2
      have hlo2 := begT_low (begT_take HBe.out i)
      obtain ⟨g, og, rfl, hg, hin⟩ := (H.out.below HB.out).at hx
      obtain ⟨kk, a, b, j, t, u, p⟩ := x
      have c0 : wr.cell? ⟨g, og + i * 7, none⟩ = some (.int .i64 kk) := hin 0 (.int .i64 kk) rfl
      have c1 : wr.cell? ⟨g, og + i * 7 + 1, none⟩ = some (.int .i64 a) := hin 1 (.int .i64 a) rfl
      have c2 : wr.cell? ⟨g, og + i * 7 + 2, none⟩ = some (.int .i64 b) := hin 2 (.int .i64 b) rfl
      have hin2 := Lib.hid hin
      have HGl := Lib.hid hg
      have hqg : Hid (HidNe g q) := HidNe.of (fun e => kind_clash (e ▸ HC.out) hin)
      clear hx hin hs hg
      have hkl := kids_low (ts_s.take i)
      have hkl2 : ∀ j, kids (ts_s.take i) j ≤ 20000 := fun j => by have h9 := hkl j; rw [List.length_take] at h9; omega
      clear hkl
      cases hcs with
      | leaf hk _ =>
       dsimp only at hk
       have hlf : leafK ⟨kk, a, b, j, t, u, p⟩ = true := by unfold leafK; rw [Bool.or_eq_true, decide_eq_true_eq, decide_eq_true_eq]; exact hk
       have htwo : twoK kk = false := by rw [Bool.eq_false_iff]; intro e; have := twoK_iff.1 e; omega
       have hone : oneK kk = false := by rw [Bool.eq_false_iff]; intro e; have := oneK_iff.1 e; omega
       have HCn : Hid (leafC (ts_s.take (i + 1)) = (le + 1) ∧ twoC (ts_s.take (i + 1)) = tw) := by
        refine ⟨?_, ?_⟩
        · rw [leafC_next HX.out, HCt.out.1]; rw [if_pos hlf]
        · rw [twoC_next HX.out, HCt.out.2]; rw [if_neg (by rw [htwo]; decide), Nat.add_zero]
       have HRn : Hid (RowA wr q 3 (ints .i64 (kidL ts_s n_s (i + 1)))) := by show RowA _ _ _ _; rw [kidL_leaf HX.out htwo hone]; exact HC.out
       have HBn := HB
       clear hlf htwo hone hkl2 hlo2
       rcases hk with rfl | rfl
       · go_wp2
         go_roundw
         case rel => exact ⟨i + 1, le + 1, tw, by first | rfl | (go_num), by first | rfl | (go_num), by go_num, hlt, by omega, by omega, HCn, HRn, HBn⟩
         case measure => simp [intOf]; omega
       · go_wp2
         go_roundw
         case rel => exact ⟨i + 1, le + 1, tw, by first | rfl | (go_num), by first | rfl | (go_num), by go_num, hlt, by omega, by omega, HCn, HRn, HBn⟩
         case measure => simp [intOf]; omega
      | one hk i2 ha hl _ =>
       dsimp only at hk ha
       subst ha
       have h78 := oneK_iff.1 hk
       have hi2 : i2 < n_s := by omega
       have hlf : leafK ⟨kk, (i2 : Int), b, j, t, u, p⟩ = false := by unfold leafK; rw [Bool.or_eq_false_iff, decide_eq_false_iff_not, decide_eq_false_iff_not]; show ¬ kk = 1 ∧ ¬ kk = 2; omega
       have htwo : twoK kk = false := one_not_two hk
       have HCn : Hid (leafC (ts_s.take (i + 1)) = le ∧ twoC (ts_s.take (i + 1)) = tw) := by
        refine ⟨?_, ?_⟩
        · rw [leafC_next HX.out, HCt.out.1]; rw [if_neg (by rw [hlf]; decide), Nat.add_zero]
        · rw [twoC_next HX.out, HCt.out.2]; rw [if_neg (by rw [htwo]; decide), Nat.add_zero]
       have cq := RowA.int (i := i2) HC.out (by rw [len_kidL]; exact hi2)
       rw [kidL_get hi2] at cq
       have fq := HC.out.free i2
       have hk9 := hkl2 i2
       have HRn : Hid (RowA (wr.setCell ⟨q, i2, none⟩ (.int .i64 (((kids (ts_s.take i) i2 : Nat) : Int) + 1))) q 3 (ints .i64 (kidL ts_s n_s (i + 1)))) := by show RowA _ _ _ _; rw [kidL_one HX.out hk rfl hi2]; exact RowA.setInt HC.out i2 _
       have HBn := Lib.hid (below_set HB.out HQ.out i2 (.int .i64 (((kids (ts_s.take i) i2 : Nat) : Int) + 1)))
       generalize kids (ts_s.take i) i2 = v9 at *
       have e1 : (kk == 1) = false := by rw [beq_eq_false_iff_ne]; omega
       have e2 : (kk == 2) = false := by rw [beq_eq_false_iff_ne]; omega
       have HK2 := Lib.hid htwo
       have gi : (i2 : Int) < (n_s : Int) := by omega
       clear hlf htwo h78 hk hkl2 hlo2
       go_wp2_with (go_at_call 25; (with_reducible refine (rTwo_c kk false HK2.out _).mono ?_); rintro e wx ⟨rfl, rfl⟩)
       go_roundw
       case rel => exact ⟨i + 1, le, tw, by first | rfl | (go_num), by first | rfl | (go_num), by go_num, hlt, by omega, by omega, HCn, HRn, HBn⟩
       case measure => simp [intOf]; omega
      | two hk b2 a2 hb hl ha hia _ =>
       dsimp only at hk ha hb
       subst ha
       subst hb
       have h36 := twoK_iff.1 hk
       have hlo3 := hlo2.le b2
       have hab : a2 < b2 := by omega
       have hbn : b2 < n_s := by omega
       have han : a2 < n_s := by omega
       have hlf : leafK ⟨kk, (a2 : Int), (b2 : Int), j, t, u, p⟩ = false := by unfold leafK; rw [Bool.or_eq_false_iff, decide_eq_false_iff_not, decide_eq_false_iff_not]; show ¬ kk = 1 ∧ ¬ kk = 2; omega
       have htwo := hk
       have HCn : Hid (leafC (ts_s.take (i + 1)) = le ∧ twoC (ts_s.take (i + 1)) = (tw + 1)) := by
        refine ⟨?_, ?_⟩
        · rw [leafC_next HX.out, HCt.out.1]; rw [if_neg (by rw [hlf]; decide), Nat.add_zero]
        · rw [twoC_next HX.out, HCt.out.2]; rw [if_pos htwo]
       have cq := RowA.int (i := a2) HC.out (by rw [len_kidL]; exact han)
       rw [kidL_get han] at cq
       have fq := HC.out.free a2
       have cq2 := RowA.int (i := b2) HC.out (by rw [len_kidL]; exact hbn)
       rw [kidL_get hbn] at cq2
       have fq2 := HC.out.free b2
       have hk9 := hkl2 a2
       have hk8 := hkl2 b2
       have hne : ¬ a2 = b2 := by omega
       have HR1 := RowA.setInt HC.out a2 (((kids (ts_s.take i) a2 : Nat) : Int) + 1)
       have HRn : Hid (RowA ((wr.setCell ⟨q, a2, none⟩ (.int .i64 (((kids (ts_s.take i) a2 : Nat) : Int) + 1))).setCell ⟨q, b2, none⟩ (.int .i64 (((kids (ts_s.take i) b2 : Nat) : Int) + 1))) q 3 (ints .i64 (kidL ts_s n_s (i + 1)))) := by show RowA _ _ _ _; rw [kidL_two HX.out hk rfl rfl hab hbn]; exact RowA.setInt HR1 b2 _
       have c2b := (clash_far hqg.out (i := a2) (v := .int .i64 (((kids (ts_s.take i) a2 : Nat) : Int) + 1)) c2)
       have cq2b := RowA.int (i := b2) HR1 (by rw [List.length_set, len_kidL]; exact hbn)
       rw [show ((kidL ts_s n_s i).set a2 (((kids (ts_s.take i) a2 : Nat) : Int) + 1)).getD b2 0 = ((kids (ts_s.take i) b2 : Nat) : Int) by rw [List.getD_eq_getElem?_getD, List.getElem?_set_ne hne, ← List.getD_eq_getElem?_getD, kidL_get hbn]] at cq2b
       have fq2b := HR1.free b2
       have HBn := Lib.hid (below_set (below_set HB.out HQ.out a2 (.int .i64 (((kids (ts_s.take i) a2 : Nat) : Int) + 1))) HQ.out b2 (.int .i64 (((kids (ts_s.take i) b2 : Nat) : Int) + 1)))
       clear HR1
       generalize kids (ts_s.take i) a2 = v9 at *
       generalize kids (ts_s.take i) b2 = v8 at *
       have e1 : (kk == 1) = false := by rw [beq_eq_false_iff_ne]; omega
       have e2 : (kk == 2) = false := by rw [beq_eq_false_iff_ne]; omega
       have HK2 := Lib.hid htwo
       have ga : (a2 : Int) < (n_s : Int) := by omega
       have gb : (b2 : Int) < (n_s : Int) := by omega
       clear hlf htwo h36 hk hkl2 hlo2 hlo3 hia
       go_wp2_with (go_at_call 25; (with_reducible refine (rTwo_c kk true HK2.out _).mono ?_); rintro e wx ⟨rfl, rfl⟩)
       go_roundw
       case rel => exact ⟨i + 1, le, tw + 1, by first | rfl | (go_num), by first | rfl | (go_num), by go_num, hlt, by omega, by omega, HCn, HRn, HBn⟩
       case measure => simp [intOf]; omega
    · skip
      obtain rfl : n_s = i := by omega
      obtain ⟨gk1, gk2⟩ := good_kids HG.out
      have hct := HCt.out
      rw [HN.out, List.take_length] at hct
      have hlt1 : le = tw + 1 := by rw [← hct.1, ← hct.2]; exact gk1
      have HGK : Hid (∀ j, j < n_s → (kidL ts_s n_s n_s).getD j 0 = if j + 1 < n_s then 1 else 0) := fun j hj => by
       rw [kidL_get hj]
       have h9 := gk2 j (by rw [← HN.out]; exact hj)
       rw [← HN.out] at h9
       have e9 : ts_s.take n_s = ts_s := by rw [HN.out, List.take_length]
       rw [e9, h9]
       split <;> rfl
      clear gk1 gk2 hct HCt
      go_wp2
      go_loopw [7] (fun i wx => ∃ j : Nat, i = .int .i64 (j : Int) ∧ j ≤ n_s ∧ wx = wr) (fun i _ => n_s - (intOf i).toNat)
      case atStart => exact ⟨0, rfl, Nat.zero_le _, rfl⟩
      case round =>
       obtain ⟨j, rfl, hj, rfl⟩ := hrel
       by_cases hjn : j < n_s
       · have cq := RowA.int (i := j) HC.out (by rw [len_kidL]; exact hjn)
         rw [HGK.out j hjn] at cq
         by_cases hj1 : j + 1 < n_s
         · rw [if_pos hj1] at cq
           have d1 : decide ((j : Int) + 1 < (n_s : Int)) = true := decide_eq_true (by omega)
           have d2 : decide (j + 1 < n_s) = true := decide_eq_true hj1
           go_wp2
           go_roundw
           case rel => exact ⟨j + 1, by go_num, by omega, by first | rfl | trivial⟩
           case measure => simp [intOf]; omega
         · rw [if_neg hj1] at cq
           have d1 : decide ((j : Int) + 1 < (n_s : Int)) = false := decide_eq_false (by omega)
           have d2 : decide (j + 1 < n_s) = false := decide_eq_false hj1
           go_wp2
           go_roundw
           case rel => exact ⟨j + 1, by go_num, by omega, by first | rfl | trivial⟩
           case measure => simp [intOf]; omega
       · obtain rfl : n_s = j := by omega
         obtain ⟨d, hd⟩ : ∃ d, deepI ts_s = d := ⟨_, rfl⟩
         have hdn : d ≤ n_s := by
          rw [← hd]
          unfold deepI
          rw [if_pos HG.out]
          have h9 := depT_dep HBe.out (ts_s.length - 1) (by rw [depT_len, ← HN.out]; omega)
          rw [← HN.out] at h9 ⊢
          omega
         have HD := Lib.hid hd
         clear hd
         have etw : ((le : Int) == (tw : Int) + 1) = true := by rw [beq_iff_eq]; omega
         go_wp2_with fail
         refine (tDeep_c (H.out.below HB.out) HM.out (HT0.out.below HB.out) d HD.out).mono ?_
         rintro e w8 ⟨rfl, bn⟩
         replace HB := Lib.hid (below_two HB.out bn)
         clear bn
         go_wp2_with fail
         refine (wakes_any w8 (Lib.hid (HT0.out.below HB.out))).mono ?_
         rintro e w9 ⟨rfl, bn⟩
         have HB9 := Lib.hid (below_two HB.out bn)
         clear bn
         go_wp2
         go_ret
         exact ⟨rfl, HB9.out⟩
theorem tab_of {W : World} (h : laidMet Tryd.prog Rows.treeLeavesRow.laid W) : XTab W := by
 refine ⟨?_, ?_⟩
 · first | exact kinds_tab (laidMet_drop 0 h) (by decide +kernel) | exact kinds_tab (laidMet_drop 1 h) (by decide +kernel) | exact kinds_tab (laidMet_drop 2 h) (by decide +kernel) | exact kinds_tab (laidMet_drop 3 h) (by decide +kernel) | exact kinds_tab (laidMet_drop 4 h) (by decide +kernel) | exact kinds_tab (laidMet_drop 5 h) (by decide +kernel) | exact kinds_tab (laidMet_drop 6 h) (by decide +kernel) | exact kinds_tab (laidMet_drop 7 h) (by decide +kernel) | exact kinds_tab (laidMet_drop 8 h) (by decide +kernel) | exact kinds_tab (laidMet_drop 9 h) (by decide +kernel) | exact kinds_tab (laidMet_drop 10 h) (by decide +kernel) | exact kinds_tab (laidMet_drop 11 h) (by decide +kernel) | exact kinds_tab (laidMet_drop 12 h) (by decide +kernel) | exact kinds_tab (laidMet_drop 13 h) (by decide +kernel)
 · first | exact lkinds_tab (laidMet_drop 0 h) (by decide +kernel) | exact lkinds_tab (laidMet_drop 1 h) (by decide +kernel) | exact lkinds_tab (laidMet_drop 2 h) (by decide +kernel) | exact lkinds_tab (laidMet_drop 3 h) (by decide +kernel) | exact lkinds_tab (laidMet_drop 4 h) (by decide +kernel) | exact lkinds_tab (laidMet_drop 5 h) (by decide +kernel) | exact lkinds_tab (laidMet_drop 6 h) (by decide +kernel) | exact lkinds_tab (laidMet_drop 7 h) (by decide +kernel) | exact lkinds_tab (laidMet_drop 8 h) (by decide +kernel) | exact lkinds_tab (laidMet_drop 9 h) (by decide +kernel) | exact lkinds_tab (laidMet_drop 10 h) (by decide +kernel) | exact lkinds_tab (laidMet_drop 11 h) (by decide +kernel) | exact lkinds_tab (laidMet_drop 12 h) (by decide +kernel) | exact lkinds_tab (laidMet_drop 13 h) (by decide +kernel)
set_option maxRecDepth 100000 in
theorem lifted (os : Os) (started : os.Started) (H : Type) (enc : TypeId × Value → H) :
 ReturnsInHanded {} Tryd.checked os 6 .any (fun w args => (Rows.treeLeavesSpec.pre enc Tryd.prog Tryd.f6 [] false w args ∧ laidMetH Tryd.prog Rows.treeLeavesRow.laid w) ∧ sizedMet enc Tryd.prog Tryd.f6 (OpenSpec.ofChange Rows.treeLeavesSpec) false w args)
  (Rows.treeLeavesSpec.post enc Tryd.prog Tryd.f6 false true false false) := by
 refine returnsInHanded_of_change_and (C := Tryd.checked) (X := fun w _ => laidMetH Tryd.prog Rows.treeLeavesRow.laid w) (fun _ _ _ hh h => h.of_heap hh) own started (by kernel_rfl) Tryd.func6
  (ChangeSpec.witness_shaped (enc := enc) (C := Tryd.checked) (os := os) (X := fun w _ => laidMetH Tryd.prog Rows.treeLeavesRow.laid w) false (World.laidAll Tryd.prog os Rows.treeLeavesRow.laid) #[.slice none 0 0] 8 (World.laidAll_os _ _ _)
    (World.shaped_of_ZipB (by kernel_rfl) (by kernel_rfl)) (by kernel_rfl) (by kernel_rfl) (by kernel_rfl)
    (by rw [MakeChecks.laidMetH_plain _ _ _ (by kernel_rfl)]; exact laidMet_laidAll _ (by kernel_rfl) (by kernel_rfl))) ?_
 intro W base args ds gs before hval0 hW _ _ hL _
 have hval : ∀ (j : Nat) t v, Tryd.f6.params[j]? = some t → args[j]? = some v → Value.okWide Tryd.prog W .any base t v := hval0
 have hW' := hW
 obtain ⟨p, q, hA0, hV, rfl, hfz, hnd⟩ := hW
 have hA : DataW.TrodAll enc Tryd.prog W 0 (fun _ => true) true Tryd.f6.params.toList args.toList ds p := hA0
 rw [Tryd.params6] at hA hval
 obtain ⟨v0, vs0, d0, ds0, p0, q0, hargs, rfl, rfl, h0, r0⟩ := trodAll_cons hA
 obtain ⟨rfl, rfl, rfl⟩ := trodAll_nil r0
 obtain rfl : args = #[v0] := by cases args; simp_all
 obtain ⟨rfl, rfl⟩ := trodVars_none hV
 obtain ⟨a0, len0, cap0, rfl⟩ := okWide_slice Tryd.underlying23 (hval 0 23 v0 rfl rfl)
 obtain ⟨z0, i0⟩ := open_tree h0
 clear hA0 hval0
 simp only [List.append_nil] at hW'
 rw [MakeChecks.laidMetH_plain _ _ _ (by kernel_rfl)] at hL
 refine (walk a0 len0 cap0 z0 W i0 (tab_of hL)).mono fun e W' ⟨he, bel⟩ => ?_
 subst he
 exact ⟨_, rfl, _, _, _, [], _, [], hW', trodAll_mk1 (shut_bool Tryd.underlying4 _), (trodAll_cons_mk (Below.trod laidOut (by kernel_rfl) (of_decide_eq_true (by kernel_rfl)) h0 bel (places_lt h0)) trodAll_mk0), rfl, bel.frame _, fun h => by cases h⟩
theorem over : Rows.treeLeavesRow.holds Tryd.pinned (OpenSpec.ofChange Rows.treeLeavesSpec) :=
 OpenClaim.holds_of_wide 6 Tryd.f6 rfl rfl rfl rfl rfl rfl rfl ⟨rfl, rfl, rfl, rfl, rfl⟩ rfl rfl rfl rfl rfl (by kernel_rfl) Tryd.func6 (by kernel_rfl)
  (of_decide_eq_true (by kernel_rfl)) (by unfold Func.isWrapper; first | (rw [if_pos (by decide +kernel)]; kernel_rfl) | (rw [if_neg (by decide +kernel)]; exact ⟨rfl, rfl⟩))
  (fun os started H enc _ => lifted os started H enc)
theorem proved : Rows.TreeLeavesCardSaid :=
 Claim7.holds_tied_plain_at .later [] Rows.treeLeavesCard.laidKinds true Rows.treeLeavesCard.stood.harness Rows.treeLeavesCard.stood.looks
  over (fun _ h => by cases h) (by kernel_rfl) (fun _ h => by cases h) treeLeaves_row_tie rfl ⟨rfl, rfl⟩ (by kernel_rfl) rfl
  (fun f fn hf hfn => by
    obtain rfl : f = 6 := Option.some.inj ((show Tryd.prog.funcNamed Rows.treeLeavesRow.func = some 6 by kernel_rfl).symm.trans hf) |>.symm
    obtain rfl : fn = Tryd.f6 := (Option.some.inj (Tryd.func6.symm.trans hfn)).symm
    exact ⟨by kernel_rfl, fun j t ht => by
     have hm : t ∈ Tryd.f6.params.toList := by simpa using Array.mem_of_getElem? ht
     have hall : (Tryd.f6.params.toList.all fun u => !Tryd.prog.wantsStandIn u) = true := by kernel_rfl
     exact (show Tryd.prog.wantsStandIn t = false by simpa using List.all_eq_true.1 hall t hm)⟩)
  (by kernel_rfl)
end Go.Proofs.YtbddhflmknaadaaDoor.lawTreeLeaves
