/- Of any rational number, any number of places and any text: what package decimal tells is what the document tells. Condition: the listed tables. -/
import Derived.Test.YtjikaojffgjndaaGreatDoorM11
import Derived.LoopIn
import Derived.BigQuiet
import Derived.Test.YtjikaojffgjndaaGreatDoorCards
import Derived.Test.YtjikaojffgjndaaGreatDoorTie
import Derived.ChangeMaps5
import Derived.Lay
import Derived.SevenTiedAt
/- What the reference of layer 10 answers (May, Exact), as contracts over memory. Conditions: sizes of at most so many limbs. -/
namespace Go.Proofs.YtjikaojffgjndaaGreatDoor
open Go.RowKit Limb
set_option linter.unusedVariables false
theorem cmp_one {d : Nat} (h0 : d ≠ 0) (h : d ≠ 1) : cmpI d 1 = 1 := cmpI_gt (by omega)
theorem cmp_same (d : Nat) : cmpI d d = 0 := cmpI_eq d
theorem zT_len_le (x : Int) : (zT x).length ≤ (decT x.natAbs).length + 1 := by
 unfold zT
 split
 · simp
 · omega
theorem ex_sizes {q : Rat} (h : fitsQ q = true) {T1 T2 : ByteArray} (h1 : strOf (zT q.num) = T1) (h2 : strOf (decT q.den) = T2) : T1.size ≤ 1000 ∧ T2.size ≤ 1000 := by
 simp only [fitsQ, Bool.and_eq_true, decide_eq_true_eq] at h
 have a := decT_len_limbs h.1
 have b := decT_len_limbs h.2
 have c := zT_len_le q.num
 rw [← h1, ← h2, size_strOf, size_strOf]
 omega
theorem one_lit : limbs 1 = [1] := by simp [limbs, limbsTo]
theorem nn_empty {w : World} {A : Option Addr} {n c a L : Nat} (h : NN w A n c (limbs a) a L) : ((n : Int) == 0) = decide (a = 0) := by
 have hl := h.isN.len
 rw [Bool.eq_iff_iff, beq_iff_eq, decide_eq_true_eq]
 constructor
 · intro e
   have h2 : limbs a = [] := List.eq_nil_of_length_eq_zero (by omega)
   have h3 := h.val
   rw [h2] at h3
   exact h3.symm
 · intro e
   subst e
   rw [limbs_zero] at hl
   simp at hl
   omega
section
variable {w : World} {s s' : Bool} {A B A' B' : Option Addr} {n c m d n' c' m' d' : Nat} {xs ys xs' ys' : List Nat} {x y : Int} {a b L L' : Nat}
set_option maxHeartbeats 4000000 in
set_option maxRecDepth 100000 in
theorem refDMay_c {o : Option Rat} (hx : QQ w s A n c xs B m d ys o L) (h1 : L ≤ 1000000) (p : Int) (v : Bool) (hv : (o.isSome && (decide (0 ≤ p) && decide (p ≤ 60))) = v) :
 Calls Tryz.prog 21 #[.agg #[.bool s, .slice A n c, .slice B m d], .int .i64 p] w fun e w' => e = .returned (.bool v) ∧ Below w.heap.size w w' := by
 have b0 := below_new w (.cells #[Value.bool s, Value.slice A n c, Value.slice B m d] 27)
 have HW := Lib.hid b0
 have HQ := Lib.hid (hx.below b0)
 have HR0 := Lib.hid (row3_new w 27 (.bool s) (.slice A n c) (.slice B m d))
 clear b0 hx
 cases o with
 | none =>
  obtain rfl : v = false := by rw [← hv]; rfl
  clear hv
  go_enter Tryz.func21, Tryz.ntmps21
  go_wp2_with fail
  generalize w.alloc (.cells #[Value.bool s, Value.slice A n c, Value.slice B m d] 27) = w1 at *
  refine (refGood_c HQ.out (by omega) false rfl).mono ?_
  rintro e w2 ⟨rfl, bn⟩
  replace HQ := Lib.hid (HQ.out.below bn)
  replace HR0 := Lib.hid (HR0.out.below bn)
  replace HW := Lib.hid (below_two HW.out bn)
  clear bn
  go_wp2
  go_ret
  exact ⟨rfl, HW.out⟩
 | some q =>
  have hv2 : (decide (0 ≤ p) && decide (p ≤ 60)) = v := hv
  clear hv
  by_cases h0 : 0 ≤ p
  · by_cases h6 : p ≤ 60
    · obtain rfl : v = true := by rw [← hv2, decide_eq_true h0, decide_eq_true h6]; rfl
      clear hv2
      go_enter Tryz.func21, Tryz.ntmps21
      go_wp2_with fail
      generalize w.alloc (.cells #[Value.bool s, Value.slice A n c, Value.slice B m d] 27) = w1 at *
      refine (refGood_c HQ.out (by omega) true rfl).mono ?_
      rintro e w2 ⟨rfl, bn⟩
      replace HQ := Lib.hid (HQ.out.below bn)
      replace HR0 := Lib.hid (HR0.out.below bn)
      replace HW := Lib.hid (below_two HW.out bn)
      clear bn
      go_wp2
      go_ret
      exact ⟨rfl, HW.out⟩
    · obtain rfl : v = false := by rw [← hv2, decide_eq_false h6, Bool.and_false]
      clear hv2
      go_enter Tryz.func21, Tryz.ntmps21
      go_wp2_with fail
      generalize w.alloc (.cells #[Value.bool s, Value.slice A n c, Value.slice B m d] 27) = w1 at *
      refine (refGood_c HQ.out (by omega) true rfl).mono ?_
      rintro e w2 ⟨rfl, bn⟩
      replace HQ := Lib.hid (HQ.out.below bn)
      replace HR0 := Lib.hid (HR0.out.below bn)
      replace HW := Lib.hid (below_two HW.out bn)
      clear bn
      go_wp2
      go_ret
      exact ⟨by rw [show decide (p ≤ 60) = false from decide_eq_false (Int.not_le.2 h6)]; rfl, HW.out⟩
  · obtain rfl : v = false := by rw [← hv2, decide_eq_false h0, Bool.false_and]
    clear hv2
    go_enter Tryz.func21, Tryz.ntmps21
    go_wp2_with fail
    generalize w.alloc (.cells #[Value.bool s, Value.slice A n c, Value.slice B m d] 27) = w1 at *
    refine (refGood_c HQ.out (by omega) true rfl).mono ?_
    rintro e w2 ⟨rfl, bn⟩
    replace HQ := Lib.hid (HQ.out.below bn)
    replace HR0 := Lib.hid (HR0.out.below bn)
    replace HW := Lib.hid (below_two HW.out bn)
    clear bn
    go_wp2
    go_ret
    exact ⟨rfl, HW.out⟩
set_option maxHeartbeats 4000000 in
set_option maxRecDepth 100000 in
theorem refDExact_c {o : Option Rat} (hx : QQ w s A n c xs B m d ys o L) (h1 : L ≤ 1000000) (S : ByteArray) (hS : strOf (exO o) = S) :
 Calls Tryz.prog 19 #[.agg #[.bool s, .slice A n c, .slice B m d]] w fun e w' => e = .returned (.string S) ∧ Below w.heap.size w w' := by
 have b0 := below_new w (.cells #[Value.bool s, Value.slice A n c, Value.slice B m d] 27)
 have HW := Lib.hid b0
 have HQ := Lib.hid (hx.below b0)
 have HR0 := Lib.hid (row3_new w 27 (.bool s) (.slice A n c) (.slice B m d))
 clear b0 hx
 cases o with
 | none =>
  have HS := Lib.hid hS
  clear hS
  go_enter Tryz.func19, Tryz.ntmps19
  go_wp2_with fail
  generalize w.alloc (.cells #[Value.bool s, Value.slice A n c, Value.slice B m d] 27) = w1 at *
  refine (refGood_c HQ.out (by omega) false rfl).mono ?_
  rintro e w2 ⟨rfl, bn⟩
  replace HQ := Lib.hid (HQ.out.below bn)
  replace HR0 := Lib.hid (HR0.out.below bn)
  replace HW := Lib.hid (below_two HW.out bn)
  clear bn
  go_wp2
  go_ret
  exact ⟨by rw [← HS.out]; rfl, HW.out⟩
 | some q =>
  have HS : RowKit.Hid (strOf (exO (Option.some q)) = S) := hS
  clear hS
  obtain ⟨T1, hT1⟩ : ∃ T, strOf (zT q.num) = T := ⟨_, rfl⟩
  have HT1 := Lib.hid hT1
  clear hT1
  by_cases hd : q.den = 1
  · have hS1 : RowKit.Hid (T1 = S) := by
     show _ = _
     rw [← HT1.out, ← HS.out]; show _ = strOf (exT q); unfold exT; rw [if_pos hd, List.append_nil]
    have HC : RowKit.Hid (cmpI q.den 1 = 0) := by show _ = _; rw [hd]; exact cmp_same 1
    clear hd
    go_enter Tryz.func19, Tryz.ntmps19
    go_wp2_with fail
    generalize w.alloc (.cells #[Value.bool s, Value.slice A n c, Value.slice B m d] 27) = w1 at *
    refine (refGood_c HQ.out (by omega) true rfl).mono ?_
    rintro e w2 ⟨rfl, bn⟩
    replace HQ := Lib.hid (HQ.out.below bn)
    replace HR0 := Lib.hid (HR0.out.below bn)
    replace HW := Lib.hid (below_two HW.out bn)
    clear bn
    obtain ⟨-, -, -, -, t5, t6, -⟩ := HQ.out.some
    have HX := Lib.hid t5
    have HY := Lib.hid t6
    clear t5 t6
    have c00 := HR0.out.c0
    have c01 := HR0.out.c1
    go_wp2_with fail
    refine (refIText_c HX.out (by decide) T1 HT1.out).mono ?_
    rintro e w3 ⟨rfl, bn⟩
    clear c00 c01
    replace HX := Lib.hid (HX.out.below bn)
    replace HY := Lib.hid (HY.out.below bn)
    replace HR0 := Lib.hid (HR0.out.below bn)
    replace HW := Lib.hid (below_two HW.out bn)
    clear bn HQ
    have bl := below_new w3 (.cells #[Value.int IntKind.u32 1] 74)
    have HL : RowKit.Hid (NN (w3.alloc (.cells #[Value.int IntKind.u32 1] 74)) (some ⟨w3.heap.size, 0, none⟩) 1 1 (limbs 1) 1 1) := by
     show NN _ _ _ _ _ _ _
     have h := lit_c w3 [1] (by intro x hx; simp at hx; omega) 1 rfl
     rw [one_lit]; exact h
    have c02 := HR0.out.c2
    go_wp2_with fail
    clear c02
    replace HY := Lib.hid (HY.out.below bl)
    replace HR0 := Lib.hid (HR0.out.below bl)
    replace HW := Lib.hid (below_two HW.out bl)
    clear bl
    generalize w3.alloc (.cells #[Value.int IntKind.u32 1] 74) = w4 at *
    generalize w3.heap.size = g3 at *
    refine (refCmp_c HY.out HL.out (by decide) (by decide) 0 HC.out).mono ?_
    rintro e w5 ⟨rfl, rfl⟩
    go_wp2
    go_ret
    exact ⟨by rw [hS1.out]; rfl, HW.out⟩
  · obtain ⟨T2, hT2⟩ : ∃ T, strOf (decT q.den) = T := ⟨_, rfl⟩
    obtain ⟨z1, z2⟩ := ex_sizes HQ.out.some.2.2.2.1 HT1.out hT2
    have HT2 := Lib.hid hT2
    clear hT2
    have hS1 : RowKit.Hid (T1 ++ ((⟨#[47]⟩ : ByteArray) ++ T2) = S) := by
     show _ = _
     rw [← HT1.out, ← HT2.out, ← HS.out]; show _ ++ (strOf [47] ++ _) = strOf (exT q); unfold exT; rw [if_neg hd, strOf_append, strOf_append]; rfl
    have HC : RowKit.Hid (cmpI q.den 1 = 1) := cmp_one q.den_nz hd
    clear hd
    go_enter Tryz.func19, Tryz.ntmps19
    go_wp2_with fail
    generalize w.alloc (.cells #[Value.bool s, Value.slice A n c, Value.slice B m d] 27) = w1 at *
    refine (refGood_c HQ.out (by omega) true rfl).mono ?_
    rintro e w2 ⟨rfl, bn⟩
    replace HQ := Lib.hid (HQ.out.below bn)
    replace HR0 := Lib.hid (HR0.out.below bn)
    replace HW := Lib.hid (below_two HW.out bn)
    clear bn
    obtain ⟨-, -, -, -, t5, t6, -⟩ := HQ.out.some
    have HX := Lib.hid t5
    have HY := Lib.hid t6
    clear t5 t6
    have c00 := HR0.out.c0
    have c01 := HR0.out.c1
    go_wp2_with fail
    refine (refIText_c HX.out (by decide) T1 HT1.out).mono ?_
    rintro e w3 ⟨rfl, bn⟩
    clear c00 c01
    replace HX := Lib.hid (HX.out.below bn)
    replace HY := Lib.hid (HY.out.below bn)
    replace HR0 := Lib.hid (HR0.out.below bn)
    replace HW := Lib.hid (below_two HW.out bn)
    clear bn HQ
    have bl := below_new w3 (.cells #[Value.int IntKind.u32 1] 74)
    have HL : RowKit.Hid (NN (w3.alloc (.cells #[Value.int IntKind.u32 1] 74)) (some ⟨w3.heap.size, 0, none⟩) 1 1 (limbs 1) 1 1) := by
     show NN _ _ _ _ _ _ _
     have h := lit_c w3 [1] (by intro x hx; simp at hx; omega) 1 rfl
     rw [one_lit]; exact h
    have c02 := HR0.out.c2
    go_wp2_with fail
    clear c02
    replace HY := Lib.hid (HY.out.below bl)
    replace HR0 := Lib.hid (HR0.out.below bl)
    replace HW := Lib.hid (below_two HW.out bl)
    clear bl
    generalize w3.alloc (.cells #[Value.int IntKind.u32 1] 74) = w4 at *
    generalize w3.heap.size = g3 at *
    refine (refCmp_c HY.out HL.out (by decide) (by decide) 1 HC.out).mono ?_
    rintro e w5 ⟨rfl, rfl⟩
    have c02 := HR0.out.c2
    go_wp2_with fail
    clear c02
    refine (refText_c HY.out (by decide)).mono ?_
    rintro e w6 ⟨rfl, bn⟩
    rw [HT2.out]
    replace HW := Lib.hid (below_two HW.out bn)
    clear bn
    go_wp2
    go_ret
    exact ⟨by rw [← hS1.out]; rfl, HW.out⟩
end
end Go.Proofs.YtjikaojffgjndaaGreatDoor

/- What the reference of layer 10 answers (Exactly, Point), as contracts over memory. Conditions: sizes of at most so many limbs. -/
namespace Go.Proofs.YtjikaojffgjndaaGreatDoor
open Go.RowKit Limb
set_option linter.unusedVariables false
theorem point_none' {D : ByteArray} {x : Int} {p : Nat} (h0 : p = 0) (h : bytesOf D = padL p (decT x.natAbs)) : litSg (sg x) ++ bytesOf D = pointT x p := by
 subst h0; exact point_none h
theorem cut_size (D : ByteArray) (i j : Nat) (h : i ≤ j) (hj : j ≤ D.size) : (D.extract i j).size = j - i := by
 rw [← length_bytesOf, bytes_cut, List.length_take, List.length_drop, length_bytesOf]; omega
def padLen : Value → Nat
 | .string D => D.size
 | _ => 0
theorem ten_w (N : Nat) (V : Int) (hV : V = N) (T : Nat) (hT : 10 ^ N = T) (w : World) (h1 : N ≤ 10000) (K : Nat) (hK : T < 4294967296 ^ K) :
 Calls Tryz.prog 67 #[.int .i64 V] w fun e w' => ∃ A1 n1 c1, e = .returned (.slice A1 n1 c1) ∧ NN w' A1 n1 c1 (limbs T) T K ∧ Below w.heap.size w w' := by
 subst hV; subst hT; exact refTen_c N w h1 K hK
section
variable {w : World} {s s' : Bool} {A B A' B' : Option Addr} {n c m d n' c' m' d' : Nat} {xs ys xs' ys' : List Nat} {x y : Int} {q : Rat} {a b L L' : Nat}
set_option maxHeartbeats 4000000 in
set_option maxRecDepth 100000 in
theorem refDExactly_c (hx : QQ w s A n c xs B m d ys (Option.some q) L) (p : Nat) (hp : p ≤ 60) (v : Bool) (hv : decide (q.num.natAbs * 10 ^ p % q.den = 0) = v) :
 Calls Tryz.prog 61 #[.agg #[.bool s, .slice A n c, .slice B m d], .int .i64 (p : Int)] w fun e w' => e = .returned (.bool v) ∧ Below w.heap.size w w' := by
 obtain ⟨t1, t2, t3, -, t5, t6, -⟩ := hx.some
 subst t1
 subst t2
 subst t3
 have HX0 := Lib.hid t5
 have HY0 := Lib.hid t6
 clear t5 t6 hx
 obtain ⟨T, hT⟩ : ∃ T : Nat, 10 ^ p = T := ⟨_, rfl⟩
 have HT := Lib.hid hT
 have HTl : RowKit.Hid (T < 4294967296 ^ 7) := by show _ < _; rw [← hT]; exact Nat.lt_of_lt_of_le (ten_room p) (Nat.pow_le_pow_right (by decide) (by omega))
 have HP : RowKit.Hid (p ≤ 10000) := by show _ ≤ _; omega
 rw [hT] at hv
 have HV := Lib.hid hv
 clear hT hv
 have b0 := below_new w (.cells #[Value.bool (sg q.num), Value.slice A n c, Value.slice B m d] 27)
 have HW := Lib.hid b0
 have HX := Lib.hid (HX0.out.below b0)
 have HY := Lib.hid (HY0.out.below b0)
 have HR0 := Lib.hid (row3_new w 27 (.bool (sg q.num)) (.slice A n c) (.slice B m d))
 clear b0 HX0 HY0
 go_enter Tryz.func61, Tryz.ntmps61
 go_wp2
 generalize w.alloc (.cells #[Value.bool (sg q.num), Value.slice A n c, Value.slice B m d] 27) = wS at *
 refine region_free 12 1 [5, 6, 7, 8, 9, 10, 11, 12, 13, 14, 15, 16] ?aF16 (fun wx => Below wS.heap.size wS wx) (fun k vv wx => match k with
  | 0 => vv = .pointer (some ⟨w.heap.size, 0, none⟩)
  | 1 => vv = .pointer (some ⟨w.heap.size, 1, none⟩)
  | 2 => vv = .slice A n c
  | 3 => vv = .int .i64 (p : Int)
  | 4 => ∃ (e0 : Option Addr) (e1 : Nat) (e2 : Nat), vv = .slice e0 e1 e2 ∧ NN wx e0 e1 e2 (limbs T) T 7
  | 5 => ∃ (e0 : Option Addr) (e1 : Nat) (e2 : Nat), vv = .slice e0 e1 e2 ∧ NN wx e0 e1 e2 (limbs (q.num.natAbs * T)) (q.num.natAbs * T) (64 + 7)
  | 6 => vv = .pointer (some ⟨w.heap.size, 2, none⟩)
  | 7 => vv = .slice B m d
  | 8 => ∃ (e0 : Option Addr) (e1 : Nat) (e2 : Nat) (e3 : Option Addr) (e4 : Nat) (e5 : Nat), vv = .agg #[.slice e0 e1 e2, .slice e3 e4 e5, .bool true] ∧ NN wx e0 e1 e2 (limbs (q.num.natAbs * T / q.den)) (q.num.natAbs * T / q.den) (64 + 7) ∧ NN wx e3 e4 e5 (limbs (q.num.natAbs * T % q.den)) (q.num.natAbs * T % q.den) (64 + 7)
  | 9 => ∃ (e0 : Option Addr) (e1 : Nat) (e2 : Nat), vv = .slice e0 e1 e2 ∧ NN wx e0 e1 e2 (limbs (q.num.natAbs * T % q.den)) (q.num.natAbs * T % q.den) (64 + 7)
  | 10 => ∃ (e0 : Option Addr) (e1 : Nat) (e2 : Nat), vv = .int .i64 (e1 : Int) ∧ NN wx e0 e1 e2 (limbs (q.num.natAbs * T % q.den)) (q.num.natAbs * T % q.den) (64 + 7)
  | _ => vv = .bool v)
  (fun k => false) (by kernel_rfl) ?haF16 rfl (by kernel_rfl) (by kernel_rfl) (fun _ _ _ _ _ h => h) ?hSb16 ?hPb16 ?hS16 ?hop16 ?hfin16
 case haF16 =>
  intro vals
  simp only [fillAll, List.getElem?_cons_zero, List.getElem?_cons_succ, Act.put, List.setIfInBounds_toArray, List.set_cons_zero, List.set_cons_succ]
  exact rfl
 case hSb16 => exact fun wx w2 hb hS => below_two hS hb
 case hPb16 =>
  intro k v wa wb hb h
  match k, h with
  | 0, h => exact h
  | 1, h => exact h
  | 2, h => exact h
  | 3, h => exact h
  | 4, ⟨e0, e1, e2, h1, g0⟩ => exact ⟨e0, e1, e2, h1, g0.below hb⟩
  | 5, ⟨e0, e1, e2, h1, g0⟩ => exact ⟨e0, e1, e2, h1, g0.below hb⟩
  | 6, h => exact h
  | 7, h => exact h
  | 8, ⟨e0, e1, e2, e3, e4, e5, h1, g0, g1⟩ => exact ⟨e0, e1, e2, e3, e4, e5, h1, g0.below hb, g1.below hb⟩
  | 9, ⟨e0, e1, e2, h1, g0⟩ => exact ⟨e0, e1, e2, h1, g0.below hb⟩
  | 10, ⟨e0, e1, e2, h1, g0⟩ => exact ⟨e0, e1, e2, h1, g0.below hb⟩
  | _ + 11, h => exact h
 case hS16 => exact (Below.refl _ _).drew
 case hop16 =>
  refine .cons (k := 0) ?_ (.cons (k := 1) ?_ (.cons (k := 2) ?_ (.cons (k := 3) ?_ (.cons (k := 4) ?_ (.cons (k := 5) ?_ (.cons (k := 6) ?_ (.cons (k := 7) ?_ (.cons (k := 8) ?_ (.cons (k := 9) ?_ (.cons (k := 10) ?_ (.cons (k := 11) ?_ (.nil))))))))))))
  all_goals intro vals wr hS hd KC hK
  all_goals (show Oper.wp _ _ _ _ _ _; dsimp only)
  · go_simp
    refine hK _ _ rfl (Below.refl _ _) (by first | rfl | simp) (fun h => by cases h)
  · have d0 : vals 0 = _ := hd 0 (by decide +kernel)
    rw [d0]
    go_simp
    refine hK _ _ rfl (Below.refl _ _) (by first | rfl | simp) (fun h => by cases h)
  · have d1 : vals 1 = _ := hd 1 (by decide +kernel)
    rw [d1]
    have z0 := (HR0.out.below hS).c1
    go_simp
    refine hK _ _ rfl (Below.refl _ _) (by first | rfl | simp) (fun h => by cases h)
  · go_simp
    refine hK _ _ rfl (Below.refl _ _) (by first | rfl | simp) (fun h => by cases h)
  · have d3 : vals 3 = _ := hd 3 (by decide +kernel)
    rw [d3]
    go_simp
    go_at_call 67
    with_reducible refine (ten_w p _ rfl T HT.out _ HP.out 7 HTl.out).mono ?_
    rintro e w2 ⟨r0, r1, r2, rfl, f0, bn_r⟩
    refine hK _ _ rfl bn_r ⟨_, _, _, rfl, f0⟩ (fun h => by cases h)
  · have d2 : vals 2 = _ := hd 2 (by decide +kernel)
    obtain ⟨A_4_0, n_4_1, n_4_2, d4, h_4_0⟩ := hd 4 (by decide +kernel)
    rw [d2, d4]
    go_simp
    go_at_call 73
    with_reducible refine (refMul_c (HX.out.nn.below hS) h_4_0 (by decide) (by decide)).mono ?_
    rintro e w2 ⟨r0, r1, r2, rfl, f0, bn_r⟩
    refine hK _ _ rfl bn_r ⟨_, _, _, rfl, f0⟩ (fun h => by cases h)
  · go_simp
    refine hK _ _ rfl (Below.refl _ _) (by first | rfl | simp) (fun h => by cases h)
  · have d6 : vals 6 = _ := hd 6 (by decide +kernel)
    rw [d6]
    have z0 := (HR0.out.below hS).c2
    go_simp
    refine hK _ _ rfl (Below.refl _ _) (by first | rfl | simp) (fun h => by cases h)
  · obtain ⟨A_5_0, n_5_1, n_5_2, d5, h_5_0⟩ := hd 5 (by decide +kernel)
    have d7 : vals 7 = _ := hd 7 (by decide +kernel)
    rw [d5, d7]
    go_simp
    go_at_call 72
    with_reducible refine (refRem_yes h_5_0 (HY.out.below hS) (by decide) (by decide) q.den_nz).mono ?_
    rintro e w2 ⟨r0, r1, r2, r3, r4, r5, rfl, f0, f1, bn_r⟩
    refine hK _ _ rfl bn_r ⟨_, _, _, _, _, _, rfl, f0, f1⟩ (fun h => by cases h)
  · obtain ⟨A_8_0, n_8_1, n_8_2, A_8_3, n_8_4, n_8_5, d8, h_8_0, h_8_1⟩ := hd 8 (by decide +kernel)
    rw [d8]
    have hfld : ∀ W, (Instr.field 96 (.agg #[.slice A_8_0 n_8_1 n_8_2, .slice A_8_3 n_8_4 n_8_5, .bool true]) 1).run Tryz.prog W = .ok (.slice A_8_3 n_8_4 n_8_5) W := fun _ => by kernel_rfl
    go_simp
    refine hK _ _ rfl (Below.refl _ _) ⟨_, _, _, rfl, h_8_1⟩ (fun h => by cases h)
  · obtain ⟨A_9_0, n_9_1, n_9_2, d9, h_9_0⟩ := hd 9 (by decide +kernel)
    rw [d9]
    go_simp
    refine hK _ _ rfl (Below.refl _ _) ⟨_, _, _, rfl, h_9_0⟩ (fun h => by cases h)
  · obtain ⟨A_10_0, n_10_1, n_10_2, d10, h_10_0⟩ := hd 10 (by decide +kernel)
    rw [d10]
    have he := nn_empty h_10_0
    rw [HV.out] at he
    go_simp
    try rw [he]
    refine hK _ _ rfl (Below.refl _ _) (by first | rfl | simp) (fun h => by cases h)
 case hfin16 =>
  intro vals wr hS hP hne
  have ez_11 : vals 11 = _ := hP 11 (by decide)
  have HB := Lib.hid (below_two HW.out hS)
  try dsimp only
  rw [ez_11]
  refine wpAny_ready (rs := [12]) (by kernel_rfl) (by simp) (AllReady.cons rfl (fun KC hK => ?_) AllReady.nil)
  go_simp
  refine hK _ _ ?_
  clear hK KC
  refine wpAny_done (by kernel_rfl) ?_ _
  go_wp2
  go_ret
  exact ⟨rfl, HB.out⟩
set_option maxHeartbeats 4000000 in
set_option maxRecDepth 100000 in
theorem refDPoint_c (hx : ZZ w (sg x) A n c xs x L) (h1 : L ≤ 1000) (p : Nat) (hp : p ≤ 60) (S : ByteArray) (hS : strOf (pointT x p) = S) :
 Calls Tryz.prog 60 #[.agg #[.bool (sg x), .slice A n c], .int .i64 (p : Int)] w fun e w' => e = .returned (.string S) ∧ Below w.heap.size w w' := by
 have b0 := below_new w (.cells #[Value.bool (sg x), Value.slice A n c] 25)
 have HW := Lib.hid b0
 have HN := Lib.hid (hx.nn.below b0)
 have HR0 := Lib.hid (row2_new w 25 (.bool (sg x)) (.slice A n c))
 have HS := Lib.hid hS
 clear b0 hx hS
 obtain ⟨l, hl⟩ : ∃ l, decT x.natAbs = l := ⟨_, rfl⟩
 have Hl := Lib.hid hl
 obtain ⟨D0, hD0⟩ : ∃ D, strOf l = D := ⟨_, rfl⟩
 have HD0 : RowKit.Hid (bytesOf D0 = List.replicate 0 48 ++ l) := by show _ = _; rw [← hD0, ← hl, bytesOf_strOf (decT_bytes _)]; rfl
 have HDD := Lib.hid hD0
 have hDl : RowKit.Hid (D0.size ≤ 10001) := by
  show _ ≤ _
  have h := decT_len_limbs (lt_pow HN.out)
  rw [← hD0, size_strOf, ← hl]; omega
 clear hD0 hl
 go_enter Tryz.func60, Tryz.ntmps60
 go_wp2_with fail
 generalize w.alloc (.cells #[Value.bool (sg x), Value.slice A n c] 25) = w1 at *
 refine (refText_c HN.out (by omega)).mono ?_
 rintro e w2 ⟨rfl, bn⟩
 rw [Hl.out, HDD.out]
 have HLL : RowKit.Hid (l.length ≤ 10001) := by
  show _ ≤ _
  have h := hDl.out
  rw [← HDD.out, size_strOf] at h; exact h
 replace HR0 := Lib.hid (HR0.out.below bn)
 replace HW := Lib.hid (below_two HW.out bn)
 clear bn HN
 go_wp2
 go_loopw [5] (fun sv wr => ∃ (k : Nat) (D : ByteArray), sv = .string D ∧ RowKit.Hid (bytesOf D = List.replicate k 48 ++ l) ∧ RowKit.Hid (k ≤ p + 1 - l.length) ∧ w2 = wr) (fun sv _ => p + 1 - padLen sv)
 case atStart => exact ⟨0, D0, rfl, HD0.out, Nat.zero_le _, rfl⟩
 case round =>
  obtain ⟨k, D, rfl, HD, HK, rfl⟩ := hrel
  have hsz := pad_size HD.out
  have HSZ := Lib.hid hsz
  have hbd : D.size ≤ 20000 := by have := HK.out; have := HLL.out; omega
  clear hsz
  by_cases hlt : D.size ≤ p
  · have h1 : (D.size : Int) ≤ (p : Int) := by omega
    go_wp2
    go_roundw
    case rel => exact ⟨k + 1, _, rfl, pad_grow HD.out, by show _ ≤ _; have := HSZ.out; have := HK.out; omega, by first | rfl | trivial⟩
    case measure =>
     have hz : ((⟨#[48]⟩ : ByteArray) ++ D).size = 1 + D.size := by rw [ByteArray.size_append]; rfl
     simp only [padLen, hz]; omega
  · have HP : RowKit.Hid (bytesOf D = padL p (decT x.natAbs)) := by
     show _ = _
     rw [Hl.out]; exact pad_done HD.out HK.out (by omega)
    have h1 : ¬ (D.size : Int) ≤ (p : Int) := by omega
    clear HD HK HSZ
    cases hs : sg x with
    | false =>
     have HG := Lib.hid hs
     have c00 := HR0.out.c0
     rw [hs] at c00
     clear hs
     by_cases h0 : p = 0
     · have h2 : ¬ (0 : Int) < (p : Int) := by omega
       have HE : RowKit.Hid (D = S) := by
        show _ = _
        rw [← HS.out]; exact signed_pos HG.out (point_none' h0 HP.out)
       clear h0
       go_wp2
       go_ret
       exact ⟨by rw [← HE.out]; rfl, HW.out⟩
     · have h2 : 0 < (p : Int) := by omega
       obtain ⟨q, hq⟩ : ∃ q, D.size = q + p := ⟨D.size - p, by omega⟩
       have HQ := Lib.hid hq
       have e1 : (D.size : Int) - (p : Int) = (q : Int) := by omega
       have hql : q ≤ D.size := by omega
       have HE : RowKit.Hid ((D.extract 0 q ++ (⟨#[46]⟩ : ByteArray) ++ D.extract q D.size) = S) := by
        show _ = _
        rw [← HS.out]; exact signed_pos HG.out (point_set HP.out HQ.out h0)
       have zX0 := cut_size D 0 q (Nat.zero_le _) hql
       have zY0 := cut_size D q D.size hql (Nat.le_refl _)
       obtain ⟨X, hX⟩ : ∃ X, D.extract 0 q = X := ⟨_, rfl⟩
       obtain ⟨Y, hY⟩ : ∃ Y, D.extract q D.size = Y := ⟨_, rfl⟩
       rw [hX] at zX0 HE
       rw [hY] at zY0 HE
       have zX : X.size ≤ 20000 := by omega
       have zY : Y.size ≤ 20000 := by omega
       clear hq zX0 zY0 h0 c00
       go_wp2
       go_quiet (fail)
       have bn := below_drewN (Below.refl w2.heap.size w2) nq
       replace HR0 := Lib.hid (HR0.out.below bn)
       replace HW := Lib.hid (below_two HW.out bn)
       generalize w2.drewN nq = w5 at *
       have c00 := HR0.out.c0
       rw [HG.out] at c00
       clear bn
       go_wp2
       go_ret
       exact ⟨by rw [← HE.out]; rfl, HW.out⟩
    | true =>
     have HG := Lib.hid hs
     have c00 := HR0.out.c0
     rw [hs] at c00
     clear hs
     by_cases h0 : p = 0
     · have h2 : ¬ (0 : Int) < (p : Int) := by omega
       have HE : RowKit.Hid ((⟨#[45]⟩ : ByteArray) ++ D = S) := by
        show _ = _
        rw [← HS.out]; exact signed_neg HG.out (point_none' h0 HP.out)
       clear h0
       go_wp2
       go_ret
       exact ⟨by rw [← HE.out]; rfl, HW.out⟩
     · have h2 : 0 < (p : Int) := by omega
       obtain ⟨q, hq⟩ : ∃ q, D.size = q + p := ⟨D.size - p, by omega⟩
       have HQ := Lib.hid hq
       have e1 : (D.size : Int) - (p : Int) = (q : Int) := by omega
       have hql : q ≤ D.size := by omega
       have HE : RowKit.Hid ((⟨#[45]⟩ : ByteArray) ++ (D.extract 0 q ++ (⟨#[46]⟩ : ByteArray) ++ D.extract q D.size) = S) := by
        show _ = _
        rw [← HS.out]; exact signed_neg HG.out (point_set HP.out HQ.out h0)
       have zX0 := cut_size D 0 q (Nat.zero_le _) hql
       have zY0 := cut_size D q D.size hql (Nat.le_refl _)
       obtain ⟨X, hX⟩ : ∃ X, D.extract 0 q = X := ⟨_, rfl⟩
       obtain ⟨Y, hY⟩ : ∃ Y, D.extract q D.size = Y := ⟨_, rfl⟩
       rw [hX] at zX0 HE
       rw [hY] at zY0 HE
       have zX : X.size ≤ 20000 := by omega
       have zY : Y.size ≤ 20000 := by omega
       clear hq zX0 zY0 h0 c00
       go_wp2
       go_quiet (fail)
       have bn := below_drewN (Below.refl w2.heap.size w2) nq
       replace HR0 := Lib.hid (HR0.out.below bn)
       replace HW := Lib.hid (below_two HW.out bn)
       generalize w2.drewN nq = w5 at *
       have c00 := HR0.out.c0
       rw [HG.out] at c00
       clear bn
       go_wp2
       go_ret
       exact ⟨by rw [← HE.out]; rfl, HW.out⟩
end
end Go.Proofs.YtjikaojffgjndaaGreatDoor

/- What the reference of layer 10 answers (Floor), as a contract over memory. Conditions: sizes of at most so many limbs. -/
namespace Go.Proofs.YtjikaojffgjndaaGreatDoor
open Go.RowKit Limb
set_option linter.unusedVariables false
theorem nn_zero {w : World} {A : Option Addr} {n c a L : Nat} (h : NN w A n c (limbs a) a L) (h0 : a = 0) : n = 0 := by
 have := nn_empty h
 rw [decide_eq_true h0, beq_iff_eq] at this
 omega
theorem nn_pos {w : World} {A : Option Addr} {n c a L : Nat} (h : NN w A n c (limbs a) a L) (h0 : a ≠ 0) : 0 < n := by
 have := nn_empty h
 rw [decide_eq_false h0, beq_eq_false_iff_ne] at this
 omega
theorem neg_of_sg {z : Int} (h : sg z = true) : z < 0 := by simpa [sg] using h
theorem zz_more {w : World} {s : Bool} {A : Option Addr} {n c : Nat} {xs : List Nat} {z : Int} {L L' : Nat} (h : ZZ w s A n c xs z L) (hL : L ≤ L') : ZZ w s A n c xs z L' := ⟨⟨h.nn.isN, h.nn.val, h.nn.cap, Nat.le_trans h.nn.le hL⟩, h.sgn⟩
section
variable {w : World} {s s' : Bool} {A B A' B' : Option Addr} {n c m d n' c' m' d' : Nat} {xs ys xs' ys' : List Nat} {x y : Int} {q : Rat} {a b L L' : Nat}
set_option maxHeartbeats 4000000 in
set_option maxRecDepth 100000 in
theorem refDFloor_c (hx : QQ w s A n c xs B m d ys (Option.some q) L) (p : Nat) (hp : p ≤ 60) (z : Int) (hz : (movedQ q p).floor = z) :
 Calls Tryz.prog 26 #[.agg #[.bool s, .slice A n c, .slice B m d], .int .i64 (p : Int)] w fun e w' => ∃ A2 n2 c2, e = .returned (.agg #[.bool (sg z), .slice A2 n2 c2]) ∧ ZZ w' (sg z) A2 n2 c2 (limbs z.natAbs) z 74 ∧ Below w.heap.size w w' := by
 obtain ⟨t1, t2, t3, -, t5, t6, -⟩ := hx.some
 subst t1
 subst t2
 subst t3
 have HX0 := Lib.hid t5
 have HY0 := Lib.hid t6
 clear t5 t6 hx
 obtain ⟨T, hT⟩ : ∃ T : Nat, 10 ^ p = T := ⟨_, rfl⟩
 have HT := Lib.hid hT
 have HTl : RowKit.Hid (T < 4294967296 ^ 7) := by show _ < _; rw [← hT]; exact Nat.lt_of_lt_of_le (ten_room p) (Nat.pow_le_pow_right (by decide) (by omega))
 have HP : RowKit.Hid (p ≤ 10000) := by show _ ≤ _; omega
 obtain ⟨z0, hz0⟩ : ∃ z0, zOf (sg q.num) (q.num.natAbs * T / q.den) = z0 := ⟨_, rfl⟩
 have HZ0 := Lib.hid hz0
 have HFl := Lib.hid hz
 clear hT hz0 hz
 have b0 := below_new w (.cells #[Value.bool (sg q.num), Value.slice A n c, Value.slice B m d] 27)
 have bz := below_new (w.alloc (.cells #[Value.bool (sg q.num), Value.slice A n c, Value.slice B m d] 27)) zbox
 have HW := Lib.hid (below_two b0 bz)
 have HX := Lib.hid (HX0.out.below HW.out)
 have HY := Lib.hid (HY0.out.below HW.out)
 have r0 := (row3_new w 27 (.bool (sg q.num)) (.slice A n c) (.slice B m d)).below bz
 have rz : ZB ((w.alloc (.cells #[Value.bool (sg q.num), Value.slice A n c, Value.slice B m d] 27)).alloc zbox) (w.alloc (.cells #[Value.bool (sg q.num), Value.slice A n c, Value.slice B m d] 27)).heap.size := row2_new (w.alloc (.cells #[Value.bool (sg q.num), Value.slice A n c, Value.slice B m d] 27)) _ _ _
 simp only [World.size_alloc] at rz
 have HR0 := Lib.hid r0
 have HZ := Lib.hid rz
 have Hq : RowKit.Hid (w.heap.size ≤ w.heap.size + 1) := Nat.le_succ _
 clear b0 bz r0 rz HX0 HY0
 go_enter Tryz.func26, Tryz.ntmps26
 go_wp2
 generalize (w.alloc (.cells #[Value.bool (sg q.num), Value.slice A n c, Value.slice B m d] 27)).alloc zbox = wS at *
 refine region_free 10 1 [7, 8, 9, 10, 11, 12, 13, 14, 15, 5] ?aF18 (fun wx => Below wS.heap.size wS wx) (fun k vv wx => match k with
  | 0 => vv = .pointer (some ⟨w.heap.size, 0, none⟩)
  | 1 => vv = .pointer (some ⟨w.heap.size, 1, none⟩)
  | 2 => vv = .slice A n c
  | 3 => vv = .int .i64 (p : Int)
  | 4 => ∃ (e0 : Option Addr) (e1 : Nat) (e2 : Nat), vv = .slice e0 e1 e2 ∧ NN wx e0 e1 e2 (limbs T) T 7
  | 5 => ∃ (e0 : Option Addr) (e1 : Nat) (e2 : Nat), vv = .slice e0 e1 e2 ∧ NN wx e0 e1 e2 (limbs (q.num.natAbs * T)) (q.num.natAbs * T) (64 + 7)
  | 6 => vv = .pointer (some ⟨w.heap.size, 2, none⟩)
  | 7 => vv = .slice B m d
  | 8 => ∃ (e0 : Option Addr) (e1 : Nat) (e2 : Nat) (e3 : Option Addr) (e4 : Nat) (e5 : Nat), vv = .agg #[.slice e0 e1 e2, .slice e3 e4 e5, .bool true] ∧ NN wx e0 e1 e2 (limbs (q.num.natAbs * T / q.den)) (q.num.natAbs * T / q.den) (64 + 7) ∧ NN wx e3 e4 e5 (limbs (q.num.natAbs * T % q.den)) (q.num.natAbs * T % q.den) (64 + 7)
  | _ => ∃ (e0 : Nat), vv = .pointer (some ⟨e0, 0, none⟩) ∧ Row3 wx e0 96 (.slice none 0 0) (.slice none 0 0) (.bool false) ∧ Over wS e0 wx)
  (fun k => k == 9) (by kernel_rfl) ?haF18 rfl (by kernel_rfl) (by kernel_rfl) (fun _ _ _ _ _ h => h) ?hSb18 ?hPb18 ?hS18 ?hop18 ?hfin18
 case haF18 =>
  intro vals
  simp only [fillAll, List.getElem?_cons_zero, List.getElem?_cons_succ, Act.put, List.setIfInBounds_toArray, List.set_cons_zero, List.set_cons_succ]
  exact rfl
 case hSb18 => exact fun wx w2 hb hS => below_two hS hb
 case hPb18 =>
  intro k v wa wb hb h
  match k, h with
  | 0, h => exact h
  | 1, h => exact h
  | 2, h => exact h
  | 3, h => exact h
  | 4, ⟨e0, e1, e2, h1, g0⟩ => exact ⟨e0, e1, e2, h1, g0.below hb⟩
  | 5, ⟨e0, e1, e2, h1, g0⟩ => exact ⟨e0, e1, e2, h1, g0.below hb⟩
  | 6, h => exact h
  | 7, h => exact h
  | 8, ⟨e0, e1, e2, e3, e4, e5, h1, g0, g1⟩ => exact ⟨e0, e1, e2, e3, e4, e5, h1, g0.below hb, g1.below hb⟩
  | _ + 9, ⟨e0, h1, g0, g1⟩ => exact ⟨e0, h1, g0.below hb, g1.below hb⟩
 case hS18 => exact (Below.refl _ _).drew
 case hop18 =>
  refine .cons (k := 0) ?_ (.cons (k := 1) ?_ (.cons (k := 2) ?_ (.cons (k := 3) ?_ (.cons (k := 4) ?_ (.cons (k := 5) ?_ (.cons (k := 6) ?_ (.cons (k := 7) ?_ (.cons (k := 8) ?_ (.cons (k := 9) ?_ (.nil))))))))))
  all_goals intro vals wr hS hd KC hK
  all_goals (show Oper.wp _ _ _ _ _ _; dsimp only)
  · go_simp
    refine hK _ _ rfl (Below.refl _ _) (by first | rfl | simp) (fun h => by cases h)
  · have d0 : vals 0 = _ := hd 0 (by decide +kernel)
    rw [d0]
    go_simp
    refine hK _ _ rfl (Below.refl _ _) (by first | rfl | simp) (fun h => by cases h)
  · have d1 : vals 1 = _ := hd 1 (by decide +kernel)
    rw [d1]
    have z0 := (HR0.out.below hS).c1
    go_simp
    refine hK _ _ rfl (Below.refl _ _) (by first | rfl | simp) (fun h => by cases h)
  · go_simp
    refine hK _ _ rfl (Below.refl _ _) (by first | rfl | simp) (fun h => by cases h)
  · have d3 : vals 3 = _ := hd 3 (by decide +kernel)
    rw [d3]
    go_simp
    go_at_call 67
    with_reducible refine (ten_w p _ rfl T HT.out _ HP.out 7 HTl.out).mono ?_
    rintro e w2 ⟨r0, r1, r2, rfl, f0, bn_r⟩
    refine hK _ _ rfl bn_r ⟨_, _, _, rfl, f0⟩ (fun h => by cases h)
  · have d2 : vals 2 = _ := hd 2 (by decide +kernel)
    obtain ⟨A_4_0, n_4_1, n_4_2, d4, h_4_0⟩ := hd 4 (by decide +kernel)
    rw [d2, d4]
    go_simp
    go_at_call 73
    with_reducible refine (refMul_c (HX.out.nn.below hS) h_4_0 (by decide) (by decide)).mono ?_
    rintro e w2 ⟨r0, r1, r2, rfl, f0, bn_r⟩
    refine hK _ _ rfl bn_r ⟨_, _, _, rfl, f0⟩ (fun h => by cases h)
  · go_simp
    refine hK _ _ rfl (Below.refl _ _) (by first | rfl | simp) (fun h => by cases h)
  · have d6 : vals 6 = _ := hd 6 (by decide +kernel)
    rw [d6]
    have z0 := (HR0.out.below hS).c2
    go_simp
    refine hK _ _ rfl (Below.refl _ _) (by first | rfl | simp) (fun h => by cases h)
  · obtain ⟨A_5_0, n_5_1, n_5_2, d5, h_5_0⟩ := hd 5 (by decide +kernel)
    have d7 : vals 7 = _ := hd 7 (by decide +kernel)
    rw [d5, d7]
    go_simp
    go_at_call 72
    with_reducible refine (refRem_yes h_5_0 (HY.out.below hS) (by decide) (by decide) q.den_nz).mono ?_
    rintro e w2 ⟨r0, r1, r2, r3, r4, r5, rfl, f0, f1, bn_r⟩
    refine hK _ _ rfl bn_r ⟨_, _, _, _, _, _, rfl, f0, f1⟩ (fun h => by cases h)
  · go_simp
    refine hK _ _ rfl (below_new _ _) ⟨_, rfl, row3_new wr _ _ _ _, hS.size⟩ (fun _ => ⟨_, rfl, Nat.le_refl _, by rw [World.size_alloc]; omega⟩)
 case hfin18 =>
  intro vals wr hS hP hne
  obtain ⟨A_8_0, n_8_1, n_8_2, A_8_3, n_8_4, n_8_5, ez_8, h_8_0, h_8_1⟩ := hP 8 (by decide)
  obtain ⟨n_9_0, ez_9, h_9_0, h_9_1⟩ := hP 9 (by decide)
  have hG := h_9_0
  have hO := h_9_1
  have hNo := hG.noLimb (by intro v e; cases e) (by intro v e; cases e) (by intro v e; cases e)
  have e0 := hG.c0
  have e1 := hG.c1
  have e2 := hG.c2
  have f0 := hG.free 0
  have f1 := hG.free 1
  have f2 := hG.free 2
  have HQN := Lib.hid (h_8_0.fillR3 hNo (.slice A_8_0 n_8_1 n_8_2) (.slice A_8_3 n_8_4 n_8_5) (.bool true))
  have HRN := Lib.hid (h_8_1.fillR3 hNo (.slice A_8_0 n_8_1 n_8_2) (.slice A_8_3 n_8_4 n_8_5) (.bool true))
  have HG := Lib.hid (hG.fill (.slice A_8_0 n_8_1 n_8_2) (.slice A_8_3 n_8_4 n_8_5) (.bool true))
  have hB := below_fill3' hS hO (.slice A_8_0 n_8_1 n_8_2) (.slice A_8_3 n_8_4 n_8_5) (.bool true)
  replace HR0 := Lib.hid (HR0.out.below hB)
  replace HZ := Lib.hid (HZ.out.below hB)
  replace HW := Lib.hid (below_two HW.out hB)
  clear hB hNo hG hO
  try dsimp only
  rw [ez_8, ez_9]
  refine wpAny_ready (rs := [10]) (by kernel_rfl) (by simp) (AllReady.cons rfl (fun KC hK => ?_) AllReady.nil)
  go_simp
  refine hK _ _ ?_
  clear hK KC
  refine wpAny_done (by kernel_rfl) ?_ _
  generalize ((wr.setCell ⟨n_9_0, 0, none⟩ (.slice A_8_0 n_8_1 n_8_2)).setCell ⟨n_9_0, 1, none⟩ (.slice A_8_3 n_8_4 n_8_5)).setCell ⟨n_9_0, 2, none⟩ (.bool true) = w5 at *
  clear e0 e1 e2 f0 f1 f2
  have c00 := HR0.out.c0
  have y0 := HG.out.c0
  go_wp2_with fail
  clear c00 y0
  refine (refMake_c HQN.out (by decide) z0 HZ0.out).mono ?_
  rintro e w6 ⟨A2, n2, c2, rfl, h2, bn⟩
  have H2 := Lib.hid h2
  replace HR0 := Lib.hid (HR0.out.below bn)
  replace HZ := Lib.hid (HZ.out.below bn)
  replace HRN := Lib.hid (HRN.out.below bn)
  replace HG := Lib.hid (HG.out.below bn)
  replace HW := Lib.hid (below_two HW.out bn)
  clear bn h2 HQN
  have HZlt : RowKit.Hid (w.heap.size + 1 < w6.heap.size) := HZ.out.lt
  have bx := below_new w6 (.cells #[Value.bool (sg z0), Value.slice A2 n2 c2] 25)
  have HV := Lib.hid (row2_new w6 25 (.bool (sg z0)) (.slice A2 n2 c2))
  have hO2 : w.heap.size ≤ w6.heap.size := HW.out.size
  have HO2 := Lib.hid hO2
  replace HR0 := Lib.hid (HR0.out.below bx)
  replace HZ := Lib.hid (HZ.out.below bx)
  replace HRN := Lib.hid (HRN.out.below bx)
  replace HG := Lib.hid (HG.out.below bx)
  replace H2 := Lib.hid (H2.out.below bx)
  replace HW := Lib.hid (below_two HW.out bx)
  clear bx hO2
  have y1 := HG.out.c1
  have c00 := HR0.out.c0
  have HO3 : RowKit.Hid (w.heap.size + 1 < w6.heap.size) := HZlt.out
  cases hs : sg q.num with
  | false =>
   have HSg := Lib.hid hs
   rw [hs] at c00
   clear hs
   have hE : z = z0 := by
    rw [← HZ0.out, ← HFl.out]; exact (floor_zero HT.out (fun h => by have h3 := HSg.out; rw [sg_neg h] at h3; cases h3)).symm
   subst hE
   obtain ⟨e0, e1, f0, f1⟩ := HZ.out.cells
   have HFill := Lib.hid (HZ.out.fill (.bool (sg z)) (.slice A2 n2 c2))
   have HPt := Lib.hid (H2.out.put HZ.out (.bool (sg z)) (.slice A2 n2 c2))
   have HB := Lib.hid (below_fill (g := w.heap.size + 1) HW.out Hq.out (.bool (sg z)) (.slice A2 n2 c2))
   go_wp2
   refine bodyPost_ret (results_cell_row rfl _ _ (w.heap.size + 1) 25 #[.bool (sg z), .slice A2 n2 c2] (0, 0) _ rfl HFill.out Tryz.underlying25 rfl int_size) rfl ?_
   exact ⟨A2, n2, c2, rfl, zz_more HPt.out (by decide), HB.out⟩
  | true =>
   have HSg := Lib.hid hs
   rw [hs] at c00
   clear hs
   by_cases hr : q.num.natAbs * T % q.den = 0
   · have n0 := nn_zero HRN.out hr
     have n01 : ¬ (0 : Int) < (n_8_4 : Int) := by omega
     have hE : z = z0 := by
      rw [← HZ0.out, ← HFl.out]; exact (floor_zero HT.out (fun _ => hr)).symm
     subst hE
     clear hr n0
     obtain ⟨e0, e1, f0, f1⟩ := HZ.out.cells
     have HFill := Lib.hid (HZ.out.fill (.bool (sg z)) (.slice A2 n2 c2))
     have HPt := Lib.hid (H2.out.put HZ.out (.bool (sg z)) (.slice A2 n2 c2))
     have HB := Lib.hid (below_fill (g := w.heap.size + 1) HW.out Hq.out (.bool (sg z)) (.slice A2 n2 c2))
     go_wp2
     refine bodyPost_ret (results_cell_row rfl _ _ (w.heap.size + 1) 25 #[.bool (sg z), .slice A2 n2 c2] (0, 0) _ rfl HFill.out Tryz.underlying25 rfl int_size) rfl ?_
     exact ⟨A2, n2, c2, rfl, zz_more HPt.out (by decide), HB.out⟩
   · have HE : RowKit.Hid (z0 + (-1) = z) := by
      show _ = _
      rw [← HZ0.out, ← HFl.out]; exact floor_less HT.out (neg_of_sg HSg.out) hr
     have n0 := nn_pos HRN.out hr
     have n01 : (0 : Int) < (n_8_4 : Int) := by omega
     clear hr n0
     have HNe : RowKit.Hid (w6.heap.size ≠ w.heap.size + 1) := by show _ ≠ _; have h1 := HO3.out; omega
     go_wp2
     generalize w6.alloc (.cells #[Value.bool (sg z0), Value.slice A2 n2 c2] 25) = w7 at *
     generalize w6.heap.size = g6 at *
     refine region_free 3 1 [31, 32, 33] ?aF17 (fun wx => Below w7.heap.size w7 wx) (fun k vv wx => match k with
      | 0 => vv = .agg #[.bool (sg z0), .slice A2 n2 c2]
      | 1 => ∃ (e0 : Option Addr) (e1 : Nat) (e2 : Nat), vv = .agg #[.bool (sg (-1 : Int)), .slice e0 e1 e2] ∧ ZZ wx (sg (-1 : Int)) e0 e1 e2 (limbs (-1 : Int).natAbs) (-1 : Int) 2
      | _ => ∃ (e0 : Option Addr) (e1 : Nat) (e2 : Nat), vv = .agg #[.bool (sg z), .slice e0 e1 e2] ∧ ZZ wx (sg z) e0 e1 e2 (limbs z.natAbs) z (64 + 7 + 2 + 1))
      (fun k => false) (by kernel_rfl) ?haF17 rfl (by kernel_rfl) (by kernel_rfl) (fun _ _ _ _ _ h => h) ?hSb17 ?hPb17 ?hS17 ?hop17 ?hfin17
     case haF17 =>
      intro vals
      simp only [fillAll, List.getElem?_cons_zero, List.getElem?_cons_succ, Act.put, List.setIfInBounds_toArray, List.set_cons_zero, List.set_cons_succ]
      exact rfl
     case hSb17 => exact fun wx w2 hb hS => below_two hS hb
     case hPb17 =>
      intro k v wa wb hb h
      match k, h with
      | 0, h => exact h
      | 1, ⟨e0, e1, e2, h1, g0⟩ => exact ⟨e0, e1, e2, h1, g0.below hb⟩
      | _ + 2, ⟨e0, e1, e2, h1, g0⟩ => exact ⟨e0, e1, e2, h1, g0.below hb⟩
     case hS17 => exact (Below.refl _ _).drew
     case hop17 =>
      refine .cons (k := 0) ?_ (.cons (k := 1) ?_ (.cons (k := 2) ?_ (.nil)))
      all_goals intro vals wr hS hd KC hK
      all_goals (show Oper.wp _ _ _ _ _ _; dsimp only)
      · have z0 := (HV.out.below hS).c0
        have z1 := (HV.out.below hS).c1
        go_simp
        refine hK _ _ rfl (Below.refl _ _) (by first | rfl | simp) (fun h => by cases h)
      · go_simp
        go_at_call 63
        with_reducible refine (refIOf_c (-1) (by decide) (by decide) _).mono ?_
        rintro e w2 ⟨r0, r1, r2, rfl, f0, bn_r⟩
        refine hK _ _ rfl bn_r ⟨_, _, _, rfl, f0⟩ (fun h => by cases h)
      · have d0 : vals 0 = _ := hd 0 (by decide +kernel)
        obtain ⟨A_1_0, n_1_1, n_1_2, d1, h_1_0⟩ := hd 1 (by decide +kernel)
        rw [d0, d1]
        go_simp
        go_at_call 62
        with_reducible refine (refIAdd_c (H2.out.below hS) h_1_0 (by decide) (by decide) z HE.out).mono ?_
        rintro e w2 ⟨r0, r1, r2, rfl, f0, bn_r⟩
        refine hK _ _ rfl bn_r ⟨_, _, _, rfl, f0⟩ (fun h => by cases h)
     case hfin17 =>
      intro vals wr hS hP hne
      obtain ⟨A_2_0, n_2_1, n_2_2, ez_2, h_2_0⟩ := hP 2 (by decide)
      have hv := HV.out.below hS
      have e0 := hv.c0
      have e1 := hv.c1
      have f0 := hv.free 0
      have f1 := hv.free 1
      have HV2 := Lib.hid (hv.filled (.bool (sg z)) (.slice A_2_0 n_2_1 n_2_2))
      have H9 : RowKit.Hid (ZZ ((wr.setCell ⟨g6, 0, none⟩ (.bool (sg z))).setCell ⟨g6, 1, none⟩ (.slice A_2_0 n_2_1 n_2_2)) (sg z) A_2_0 n_2_1 n_2_2 (limbs z.natAbs) z (64 + 7 + 2 + 1)) := ⟨h_2_0.nn.put2 hv (.bool (sg z)) (.slice A_2_0 n_2_1 n_2_2), h_2_0.sgn⟩
      have hB := below_fill (below_two HW.out hS) HO2.out (.bool (sg z)) (.slice A_2_0 n_2_1 n_2_2)
      have HZ2 : RowKit.Hid (ZB ((wr.setCell ⟨g6, 0, none⟩ (.bool (sg z))).setCell ⟨g6, 1, none⟩ (.slice A_2_0 n_2_1 n_2_2)) (w.heap.size + 1)) := (HZ.out.below hS).far HNe.out (.bool (sg z)) (.slice A_2_0 n_2_1 n_2_2)
      replace HW := Lib.hid hB
      clear hB hv HZ HV
      try dsimp only
      rw [ez_2]
      refine wpAny_ready (rs := [3]) (by kernel_rfl) (by simp) (AllReady.cons rfl (fun KC hK => ?_) AllReady.nil)
      go_simp
      refine hK _ _ ?_
      clear hK KC
      refine wpAny_done (by kernel_rfl) ?_ _
      generalize (wr.setCell ⟨g6, 0, none⟩ (.bool (sg z))).setCell ⟨g6, 1, none⟩ (.slice A_2_0 n_2_1 n_2_2) = w9 at *
      clear e0 e1 f0 f1
      have HZ := HZ2
      have HV := HV2
      obtain ⟨A9, eA⟩ : ∃ A, A = A_2_0 := ⟨_, rfl⟩
      obtain ⟨n9, en⟩ : ∃ A, A = n_2_1 := ⟨_, rfl⟩
      obtain ⟨c9, ec⟩ : ∃ A, A = n_2_2 := ⟨_, rfl⟩
      rw [← eA, ← en, ← ec] at HV H9
      clear eA en ec HV2 HZ2
      have v0 := HV.out.c0
      have v1 := HV.out.c1
      obtain ⟨e0, e1, f0, f1⟩ := HZ.out.cells
      have HFill := Lib.hid (HZ.out.fill (.bool (sg z)) (.slice A9 n9 c9))
      have HPt := Lib.hid (H9.out.put HZ.out (.bool (sg z)) (.slice A9 n9 c9))
      have HB := Lib.hid (below_fill (g := w.heap.size + 1) HW.out Hq.out (.bool (sg z)) (.slice A9 n9 c9))
      go_wp2
      refine bodyPost_ret (results_cell_row rfl _ _ (w.heap.size + 1) 25 #[.bool (sg z), .slice A9 n9 c9] (0, 0) _ rfl HFill.out Tryz.underlying25 rfl int_size) rfl ?_
      exact ⟨A9, n9, c9, rfl, zz_more HPt.out (by decide), HB.out⟩
end
end Go.Proofs.YtjikaojffgjndaaGreatDoor

/- What the reference of layer 10 answers (Down, Up), as contracts over memory. Conditions: sizes of at most so many limbs. -/
namespace Go.Proofs.YtjikaojffgjndaaGreatDoor
open Go.RowKit Limb
set_option linter.unusedVariables false
section
variable {w : World} {s s' : Bool} {A B A' B' : Option Addr} {n c m d n' c' m' d' : Nat} {xs ys xs' ys' : List Nat} {x y : Int} {q : Rat} {a b L L' : Nat}
set_option maxHeartbeats 4000000 in
set_option maxRecDepth 100000 in
theorem refDDown_c (hx : QQ w s A n c xs B m d ys (Option.some q) L) (p : Nat) (hp : p ≤ 60) (S : ByteArray) (hS : strOf (pointT (movedQ q p).floor p) = S) :
 Calls Tryz.prog 22 #[.agg #[.bool s, .slice A n c, .slice B m d], .int .i64 (p : Int)] w fun e w' => e = .returned (.string S) ∧ Below w.heap.size w w' := by
 obtain ⟨z, hz⟩ : ∃ z, (movedQ q p).floor = z := ⟨_, rfl⟩
 have HZ0 := Lib.hid hz
 clear hz
 rw [HZ0.out] at hS
 have HS := Lib.hid hS
 clear hS
 have b0 := below_new w (.cells #[Value.bool s, Value.slice A n c, Value.slice B m d] 27)
 have HW := Lib.hid b0
 have HQ := Lib.hid (hx.below b0)
 have HR0 := Lib.hid (row3_new w 27 (.bool s) (.slice A n c) (.slice B m d))
 clear b0 hx
 go_enter Tryz.func22, Tryz.ntmps22
 go_wp2_with fail
 generalize w.alloc (.cells #[Value.bool s, Value.slice A n c, Value.slice B m d] 27) = w1 at *
 refine (refDFloor_c HQ.out p hp z HZ0.out).mono ?_
 rintro e w2 ⟨A2, n2, c2, rfl, h2, bn⟩
 have H2 := Lib.hid h2
 replace HW := Lib.hid (below_two HW.out bn)
 clear bn h2
 go_wp2_with fail
 refine (refDPoint_c H2.out (by decide) p hp S HS.out).mono ?_
 rintro e w3 ⟨rfl, bn⟩
 replace HW := Lib.hid (below_two HW.out bn)
 clear bn
 go_wp2
 go_ret
 exact ⟨rfl, HW.out⟩
set_option maxHeartbeats 4000000 in
set_option maxRecDepth 100000 in
theorem refDUp_c (hx : QQ w s A n c xs B m d ys (Option.some q) L) (p : Nat) (hp : p ≤ 60) (S : ByteArray) (hS : strOf (pointT (movedQ q p).ceil p) = S) :
 Calls Tryz.prog 23 #[.agg #[.bool s, .slice A n c, .slice B m d], .int .i64 (p : Int)] w fun e w' => e = .returned (.string S) ∧ Below w.heap.size w w' := by
 obtain ⟨z, hz⟩ : ∃ z, (movedQ q p).floor = z := ⟨_, rfl⟩
 have HZ0 := Lib.hid hz
 clear hz
 obtain ⟨z1, hz1⟩ : ∃ z1, (movedQ q p).ceil = z1 := ⟨_, rfl⟩
 rw [hz1] at hS
 have HC := Lib.hid hz1
 have HS := Lib.hid hS
 clear hS hz1
 have b0 := below_new w (.cells #[Value.bool s, Value.slice A n c, Value.slice B m d] 27)
 have HW := Lib.hid b0
 have HQ := Lib.hid (hx.below b0)
 have HR0 := Lib.hid (row3_new w 27 (.bool s) (.slice A n c) (.slice B m d))
 clear b0 hx
 go_enter Tryz.func23, Tryz.ntmps23
 go_wp2_with fail
 generalize w.alloc (.cells #[Value.bool s, Value.slice A n c, Value.slice B m d] 27) = w1 at *
 refine (refDFloor_c HQ.out p hp z HZ0.out).mono ?_
 rintro e w6 ⟨A2, n2, c2, rfl, h2, bn⟩
 have H2 := Lib.hid h2
 replace HQ := Lib.hid (HQ.out.below bn)
 replace HR0 := Lib.hid (HR0.out.below bn)
 replace HW := Lib.hid (below_two HW.out bn)
 clear bn h2
 have bx := below_new w6 (.cells #[Value.bool (sg z), Value.slice A2 n2 c2] 25)
 have HV := Lib.hid (row2_new w6 25 (.bool (sg z)) (.slice A2 n2 c2))
 have HG6 : RowKit.Hid (w.heap.size ≤ w6.heap.size) := HW.out.size
 replace HQ := Lib.hid (HQ.out.below bx)
 replace HR0 := Lib.hid (HR0.out.below bx)
 replace H2 := Lib.hid (H2.out.below bx)
 replace HW := Lib.hid (below_two HW.out bx)
 clear bx
 have c0 := HR0.out.c0
 have c1 := HR0.out.c1
 have c2_ := HR0.out.c2
 go_wp2_with fail
 clear c0 c1 c2_
 generalize w6.alloc (.cells #[Value.bool (sg z), Value.slice A2 n2 c2] 25) = w7 at *
 generalize w6.heap.size = g6 at *
 by_cases hr : q.num.natAbs * 10 ^ p % q.den = 0
 · have hE : z = z1 := by
    rw [← HZ0.out, ← HC.out, floor_ceil rfl, if_pos hr]
   subst hE
   refine (refDExactly_c HQ.out p hp true (decide_eq_true hr)).mono ?_
   rintro e w8 ⟨rfl, bn⟩
   clear hr
   replace HV := Lib.hid (HV.out.below bn)
   replace H2 := Lib.hid (H2.out.below bn)
   replace HW := Lib.hid (below_two HW.out bn)
   clear bn HQ HR0
   have v0 := HV.out.c0
   have v1 := HV.out.c1
   go_wp2_with fail
   clear v0 v1
   refine (refDPoint_c H2.out (by decide) p hp S HS.out).mono ?_
   rintro e w10 ⟨rfl, bn⟩
   replace HW := Lib.hid (below_two HW.out bn)
   clear bn
   go_wp2
   go_ret
   exact ⟨rfl, HW.out⟩
 · have HE : RowKit.Hid (z + 1 = z1) := by
    show _ = _
    rw [← HZ0.out, ← HC.out, floor_ceil rfl, if_neg hr]
   refine (refDExactly_c HQ.out p hp false (decide_eq_false hr)).mono ?_
   rintro e w8 ⟨rfl, bn⟩
   clear hr
   replace HV := Lib.hid (HV.out.below bn)
   replace H2 := Lib.hid (H2.out.below bn)
   replace HW := Lib.hid (below_two HW.out bn)
   clear bn HQ HR0
   go_wp2
   refine region_free 3 1 [13, 14, 15] ?aF19 (fun wx => Below w8.heap.size w8 wx) (fun k vv wx => match k with
    | 0 => vv = .agg #[.bool (sg z), .slice A2 n2 c2]
    | 1 => ∃ (e0 : Option Addr) (e1 : Nat) (e2 : Nat), vv = .agg #[.bool (sg (1 : Int)), .slice e0 e1 e2] ∧ ZZ wx (sg (1 : Int)) e0 e1 e2 (limbs (1 : Int).natAbs) (1 : Int) 2
    | _ => ∃ (e0 : Option Addr) (e1 : Nat) (e2 : Nat), vv = .agg #[.bool (sg z1), .slice e0 e1 e2] ∧ ZZ wx (sg z1) e0 e1 e2 (limbs z1.natAbs) z1 (74 + 2 + 1))
    (fun k => false) (by kernel_rfl) ?haF19 rfl (by kernel_rfl) (by kernel_rfl) (fun _ _ _ _ _ h => h) ?hSb19 ?hPb19 ?hS19 ?hop19 ?hfin19
   case haF19 =>
    intro vals
    simp only [fillAll, List.getElem?_cons_zero, List.getElem?_cons_succ, Act.put, List.setIfInBounds_toArray, List.set_cons_zero, List.set_cons_succ]
    exact rfl
   case hSb19 => exact fun wx w2 hb hS => below_two hS hb
   case hPb19 =>
    intro k v wa wb hb h
    match k, h with
    | 0, h => exact h
    | 1, ⟨e0, e1, e2, h1, g0⟩ => exact ⟨e0, e1, e2, h1, g0.below hb⟩
    | _ + 2, ⟨e0, e1, e2, h1, g0⟩ => exact ⟨e0, e1, e2, h1, g0.below hb⟩
   case hS19 => exact (Below.refl _ _).drew
   case hop19 =>
    refine .cons (k := 0) ?_ (.cons (k := 1) ?_ (.cons (k := 2) ?_ (.nil)))
    all_goals intro vals wr hS hd KC hK
    all_goals (show Oper.wp _ _ _ _ _ _; dsimp only)
    · have z0 := (HV.out.below hS).c0
      have z1 := (HV.out.below hS).c1
      go_simp
      refine hK _ _ rfl (Below.refl _ _) (by first | rfl | simp) (fun h => by cases h)
    · go_simp
      go_at_call 63
      with_reducible refine (refIOf_c 1 (by decide) (by decide) _).mono ?_
      rintro e w2 ⟨r0, r1, r2, rfl, f0, bn_r⟩
      refine hK _ _ rfl bn_r ⟨_, _, _, rfl, f0⟩ (fun h => by cases h)
    · have d0 : vals 0 = _ := hd 0 (by decide +kernel)
      obtain ⟨A_1_0, n_1_1, n_1_2, d1, h_1_0⟩ := hd 1 (by decide +kernel)
      rw [d0, d1]
      go_simp
      go_at_call 62
      with_reducible refine (refIAdd_c (H2.out.below hS) h_1_0 (by decide) (by decide) z1 HE.out).mono ?_
      rintro e w2 ⟨r0, r1, r2, rfl, f0, bn_r⟩
      refine hK _ _ rfl bn_r ⟨_, _, _, rfl, f0⟩ (fun h => by cases h)
   case hfin19 =>
    intro vals wr hS hP hne
    obtain ⟨A_2_0, n_2_1, n_2_2, ez_2, h_2_0⟩ := hP 2 (by decide)
    have hv := HV.out.below hS
    have e0 := hv.c0
    have e1 := hv.c1
    have f0 := hv.free 0
    have f1 := hv.free 1
    have HV2 := Lib.hid (hv.filled (.bool (sg z1)) (.slice A_2_0 n_2_1 n_2_2))
    have H9 : RowKit.Hid (ZZ ((wr.setCell ⟨g6, 0, none⟩ (.bool (sg z1))).setCell ⟨g6, 1, none⟩ (.slice A_2_0 n_2_1 n_2_2)) (sg z1) A_2_0 n_2_1 n_2_2 (limbs z1.natAbs) z1 (74 + 2 + 1)) := ⟨h_2_0.nn.put2 hv (.bool (sg z1)) (.slice A_2_0 n_2_1 n_2_2), h_2_0.sgn⟩
    have hB := below_fill (below_two HW.out hS) HG6.out (.bool (sg z1)) (.slice A_2_0 n_2_1 n_2_2)
    replace HW := Lib.hid hB
    clear hB hv HV
    try dsimp only
    rw [ez_2]
    refine wpAny_ready (rs := [3]) (by kernel_rfl) (by simp) (AllReady.cons rfl (fun KC hK => ?_) AllReady.nil)
    go_simp
    refine hK _ _ ?_
    clear hK KC
    refine wpAny_done (by kernel_rfl) ?_ _
    generalize (wr.setCell ⟨g6, 0, none⟩ (.bool (sg z1))).setCell ⟨g6, 1, none⟩ (.slice A_2_0 n_2_1 n_2_2) = w9 at *
    clear e0 e1 f0 f1
    have HV := HV2
    have v0 := HV.out.c0
    have v1 := HV.out.c1
    go_wp2_with fail
    clear v0 v1
    refine (refDPoint_c H9.out (by decide) p hp S HS.out).mono ?_
    rintro e w10 ⟨rfl, bn⟩
    replace HW := Lib.hid (below_two HW.out bn)
    clear bn
    go_wp2
    go_ret
    exact ⟨rfl, HW.out⟩
end
end Go.Proofs.YtjikaojffgjndaaGreatDoor

/- What the reference of layer 10 answers (Near), as a contract over memory. Conditions: sizes of at most so many limbs. -/
namespace Go.Proofs.YtjikaojffgjndaaGreatDoor
open Go.RowKit Limb
set_option linter.unusedVariables false
theorem near_mq {q : Rat} {p T : Nat} (hT : 10 ^ p = T) : mkRat (q.num * (T : Int)) (q.den * 1) = movedQ q p := by
 subst hT
 unfold movedQ
 have h2 : ((10 ^ p : Nat) : Rat) = (10 : Rat) ^ p := by rw [Rat.natCast_pow]; rfl
 rw [← h2, mul_mk, Rat.num_natCast, Rat.den_natCast]
theorem near_dq {t : Rat} {z : Int} : mkRat (t.num * ((1 : Nat) : Int) + (-z) * (t.den : Int)) (t.den * 1) = t - (z : Rat) := by
 have h : t - (z : Rat) = t + ((-z : Int) : Rat) := by rw [Rat.intCast_neg, Rat.sub_eq_add_neg]
 rw [h, add_mk, Rat.num_intCast, Rat.den_intCast]
theorem near_ee {d : Rat} : mkRat (d.num * (d.den : Int) + d.num * (d.den : Int)) (d.den * d.den) = d + d := (add_mk d d).symm
theorem near_frac (t : Rat) : (t - (t.floor : Rat)).num.natAbs < (t - (t.floor : Rat)).den := by
 have h1 := Rat.floor_le t
 have h2 := Rat.lt_floor_add_one t
 have h3 : (0 : Rat) ≤ t - (t.floor : Rat) := by grind
 have h4 : t - (t.floor : Rat) < 1 := by
  rw [Rat.intCast_add] at h2
  have : ((1 : Int) : Rat) = 1 := rfl
  grind
 have h5 := Rat.num_nonneg.2 h3
 have h6 := (Rat.lt_iff _ _).1 h4
 have e1 : (1 : Rat).num = 1 := rfl
 have e2 : (1 : Rat).den = 1 := rfl
 rw [e1, e2] at h6
 omega
theorem near_is {t : Rat} {v : Int} (hv : cmpQ ((t - (t.floor : Rat)) + (t - (t.floor : Rat))) 1 = v) : nearQ t = if 0 < v ∨ (v = 0 ∧ t.floor.natAbs % 2 = 1) then t.floor + 1 else t.floor := by
 unfold nearQ
 rw [hv]
theorem bit_odd (n : Nat) : n.testBit (0 : Int).toNat = decide (n % 2 = 1) := by
 show n.testBit 0 = _
 rw [Nat.testBit_zero]
theorem nn_more {w : World} {A : Option Addr} {n c : Nat} {xs : List Nat} {a L L' : Nat} (h : NN w A n c xs a L) (hL : L ≤ L') : NN w A n c xs a L' := ⟨h.isN, h.val, h.cap, Nat.le_trans h.le hL⟩
theorem lit_one (w : World) : NN (w.alloc (.cells #[Value.int IntKind.u32 1] 74)) (some ⟨w.heap.size, 0, none⟩) 1 1 (limbs 1) 1 1 := by
 have h := lit_c w [1] (by intro x hx; simp at hx; omega) 1 rfl
 rw [one_lit]; exact h
theorem refQWhole1_c (w : World) : Calls Tryz.prog 70 #[.int .i64 1] w fun e w' => ∃ A2 n2 c2 B2 m2 d2, e = .returned (.agg #[.bool (sg (oTop (some 1))), .slice A2 n2 c2, .slice B2 m2 d2]) ∧ QT w' A2 n2 c2 B2 m2 d2 (some 1) ∧ Below w.heap.size w w' := refQWhole_c 1 (by decide) (by decide) w
section
variable {w : World} {s s' : Bool} {A B A' B' : Option Addr} {n c m d n' c' m' d' : Nat} {xs ys xs' ys' : List Nat} {x y : Int} {q : Rat} {a b L L' : Nat}
set_option maxHeartbeats 4000000 in
set_option maxRecDepth 100000 in
theorem refDNear_c (hx : QQ w s A n c xs B m d ys (Option.some q) L) (p : Nat) (hp : p ≤ 60) (S : ByteArray) (hS : strOf (pointT (nearQ (movedQ q p)) p) = S) :
 Calls Tryz.prog 24 #[.agg #[.bool s, .slice A n c, .slice B m d], .int .i64 (p : Int)] w fun e w' => e = .returned (.string S) ∧ Below w.heap.size w w' := by
 obtain ⟨z, hz⟩ : ∃ z, (movedQ q p).floor = z := ⟨_, rfl⟩
 obtain ⟨mq, hmq⟩ : ∃ t, movedQ q p = t := ⟨_, rfl⟩
 obtain ⟨dq, hdq⟩ : ∃ t : Rat, mq - (z : Rat) = t := ⟨_, rfl⟩
 obtain ⟨zz, hzz⟩ : ∃ t : Int, mq.num * ((1 : Nat) : Int) + (-z) * (mq.den : Int) = t := ⟨_, rfl⟩
 obtain ⟨ee, hee⟩ : ∃ t : Rat, dq + dq = t := ⟨_, rfl⟩
 obtain ⟨z2, hz2⟩ : ∃ t : Int, dq.num * (dq.den : Int) + dq.num * (dq.den : Int) = t := ⟨_, rfl⟩
 obtain ⟨v, hv⟩ : ∃ v, cmpQ ee 1 = v := ⟨_, rfl⟩
 obtain ⟨zn, hzn⟩ : ∃ t, nearQ (movedQ q p) = t := ⟨_, rfl⟩
 obtain ⟨T, hT⟩ : ∃ T : Nat, 10 ^ p = T := ⟨_, rfl⟩
 have HT := Lib.hid hT
 have HTl : RowKit.Hid (T < 4294967296 ^ 7) := by show _ < _; rw [← hT]; exact Nat.lt_of_lt_of_le (ten_room p) (Nat.pow_le_pow_right (by decide) (by omega))
 have HP : RowKit.Hid (p ≤ 10000) := by show _ ≤ _; omega
 have HM : RowKit.Hid (mkRat (q.num * (T : Int)) (q.den * 1) = mq) := (near_mq hT).trans hmq
 have HDQ : RowKit.Hid (mkRat zz (mq.den * 1) = dq) := by show _ = _; rw [← hzz, ← hdq]; exact near_dq
 have HEE : RowKit.Hid (mkRat z2 (dq.den * dq.den) = ee) := by show _ = _; rw [← hz2, ← hee]; exact near_ee
 have HVV : RowKit.Hid (cmpZ (ee.num * ((1 : Rat).den : Int)) ((1 : Rat).num * (ee.den : Int)) = v) := hv
 have hfl : mq.floor = z := by rw [← hmq]; exact hz
 have HFr : RowKit.Hid (dq.num.natAbs < dq.den) := by show _ < _; rw [← hdq, ← hfl]; exact near_frac mq
 have HZN : RowKit.Hid (zn = if 0 < v ∨ (v = 0 ∧ z.natAbs % 2 = 1) then z + 1 else z) := by
  show _ = _
  rw [← hzn, hmq, ← hfl]; exact near_is (by rw [hfl, hdq, hee]; exact hv)
 have HVB : RowKit.Hid (v = -1 ∨ v = 0 ∨ v = 1) := by
  have h := cmpQ_bounds ee 1
  rw [hv] at h
  show _ ∨ _ ∨ _; omega
 have HZZ := Lib.hid hzz
 have HZ2 := Lib.hid hz2
 have HZ0 := Lib.hid hz
 rw [hzn] at hS
 have HS := Lib.hid hS
 clear hS hzn hmq hdq hzz hee hz2 hv hfl hz hT
 have b0 := below_new w (.cells #[Value.bool s, Value.slice A n c, Value.slice B m d] 27)
 have HW := Lib.hid b0
 have HQ := Lib.hid (hx.below b0)
 have HR0 := Lib.hid (row3_new w 27 (.bool s) (.slice A n c) (.slice B m d))
 clear b0 hx
 go_enter Tryz.func24, Tryz.ntmps24
 go_wp2_with fail
 generalize w.alloc (.cells #[Value.bool s, Value.slice A n c, Value.slice B m d] 27) = w1 at *
 refine (refDFloor_c HQ.out p hp z HZ0.out).mono ?_
 rintro e w6 ⟨A2, n2, c2, rfl, h2, bn⟩
 have H2 := Lib.hid h2
 replace HQ := Lib.hid (HQ.out.below bn)
 replace HR0 := Lib.hid (HR0.out.below bn)
 replace HW := Lib.hid (below_two HW.out bn)
 clear bn h2
 have bx := below_new w6 (.cells #[Value.bool (sg z), Value.slice A2 n2 c2] 25)
 have HV := Lib.hid (row2_new w6 25 (.bool (sg z)) (.slice A2 n2 c2))
 have HG6 : RowKit.Hid (w.heap.size ≤ w6.heap.size) := HW.out.size
 replace HQ := Lib.hid (HQ.out.below bx)
 replace HR0 := Lib.hid (HR0.out.below bx)
 replace H2 := Lib.hid (H2.out.below bx)
 replace HW := Lib.hid (below_two HW.out bx)
 clear bx
 have HG7 : RowKit.Hid (w.heap.size ≤ (w6.alloc (.cells #[Value.bool (sg z), Value.slice A2 n2 c2] 25)).heap.size) := HW.out.size
 go_wp2
 generalize w6.alloc (.cells #[Value.bool (sg z), Value.slice A2 n2 c2] 25) = w7 at *
 generalize w6.heap.size = g6 at *
 obtain ⟨-, -, -, -, t5, t6, -⟩ := HQ.out.some
 have HX := Lib.hid t5
 have HY := Lib.hid t6
 clear t5 t6 HQ
 refine region_free 13 1 [11, 12, 13, 14, 15, 16, 17, 18, 19, 20, 21, 22, 6] ?aF22 (fun wx => Below w7.heap.size w7 wx) (fun k vv wx => match k with
  | 0 => vv = .agg #[.bool s, .slice A n c, .slice B m d]
  | 1 => vv = .int .i64 (p : Int)
  | 2 => ∃ (e0 : Option Addr) (e1 : Nat) (e2 : Nat), vv = .slice e0 e1 e2 ∧ NN wx e0 e1 e2 (limbs T) T 7
  | 3 => ∃ (e0 : Option Addr) (e1 : Nat) (e2 : Nat), vv = .agg #[.bool (sg (T : Int)), .slice e0 e1 e2] ∧ ZZ wx (sg (T : Int)) e0 e1 e2 (limbs (T : Int).natAbs) (T : Int) 7
  | 4 => ∃ (e0 : Nat), vv = .slice (some ⟨e0, 0, none⟩) 1 1 ∧ NN wx (some ⟨e0, 0, none⟩) 1 1 (limbs 1) 1 1
  | 5 => ∃ (e0 : Option Addr) (e1 : Nat) (e2 : Nat) (e3 : Nat), vv = .agg #[.bool (sg (T : Int)), .slice e0 e1 e2, .slice (some ⟨e3, 0, none⟩) 1 1] ∧ ZZ wx (sg (T : Int)) e0 e1 e2 (limbs (T : Int).natAbs) (T : Int) 7 ∧ NN wx (some ⟨e3, 0, none⟩) 1 1 (limbs 1) 1 1
  | 6 => ∃ (e0 : Option Addr) (e1 : Nat) (e2 : Nat) (e3 : Option Addr) (e4 : Nat) (e5 : Nat), vv = .agg #[.bool (sg mq.num), .slice e0 e1 e2, .slice e3 e4 e5] ∧ ZZ wx (sg mq.num) e0 e1 e2 (limbs mq.num.natAbs) mq.num (64 + 7) ∧ NN wx e3 e4 e5 (limbs mq.den) mq.den (64 + 7)
  | 7 => vv = .agg #[.bool (sg z), .slice A2 n2 c2]
  | 8 => ∃ (e0 : Option Addr) (e1 : Nat) (e2 : Nat), vv = .agg #[.bool (sg (-z)), .slice e0 e1 e2] ∧ ZZ wx (sg (-z)) e0 e1 e2 (limbs (-z).natAbs) (-z) 74
  | 9 => ∃ (e0 : Nat), vv = .slice (some ⟨e0, 0, none⟩) 1 1 ∧ NN wx (some ⟨e0, 0, none⟩) 1 1 (limbs 1) 1 1
  | 10 => ∃ (e0 : Option Addr) (e1 : Nat) (e2 : Nat) (e3 : Nat), vv = .agg #[.bool (sg (-z)), .slice e0 e1 e2, .slice (some ⟨e3, 0, none⟩) 1 1] ∧ ZZ wx (sg (-z)) e0 e1 e2 (limbs (-z).natAbs) (-z) 74 ∧ NN wx (some ⟨e3, 0, none⟩) 1 1 (limbs 1) 1 1
  | 11 => ∃ (e0 : Option Addr) (e1 : Nat) (e2 : Nat) (e3 : Option Addr) (e4 : Nat) (e5 : Nat), vv = .agg #[.bool (sg dq.num), .slice e0 e1 e2, .slice e3 e4 e5] ∧ ZZ wx (sg dq.num) e0 e1 e2 (limbs dq.num.natAbs) dq.num (64 + 7 + 74 + (74 + (64 + 7)) + 1) ∧ NN wx e3 e4 e5 (limbs dq.den) dq.den (64 + 7 + 74)
  | _ => ∃ (e0 : Nat), vv = .pointer (some ⟨e0, 0, none⟩) ∧ Row3 wx e0 27 (.bool false) (.slice none 0 0) (.slice none 0 0) ∧ Over w7 e0 wx)
  (fun k => k == 12) (by kernel_rfl) ?haF22 rfl (by kernel_rfl) (by kernel_rfl) (fun _ _ _ _ _ h => h) ?hSb22 ?hPb22 ?hS22 ?hop22 ?hfin22
 case haF22 =>
  intro vals
  simp only [fillAll, List.getElem?_cons_zero, List.getElem?_cons_succ, Act.put, List.setIfInBounds_toArray, List.set_cons_zero, List.set_cons_succ]
  exact rfl
 case hSb22 => exact fun wx w2 hb hS => below_two hS hb
 case hPb22 =>
  intro k v wa wb hb h
  match k, h with
  | 0, h => exact h
  | 1, h => exact h
  | 2, ⟨e0, e1, e2, h1, g0⟩ => exact ⟨e0, e1, e2, h1, g0.below hb⟩
  | 3, ⟨e0, e1, e2, h1, g0⟩ => exact ⟨e0, e1, e2, h1, g0.below hb⟩
  | 4, ⟨e0, h1, g0⟩ => exact ⟨e0, h1, g0.below hb⟩
  | 5, ⟨e0, e1, e2, e3, h1, g0, g1⟩ => exact ⟨e0, e1, e2, e3, h1, g0.below hb, g1.below hb⟩
  | 6, ⟨e0, e1, e2, e3, e4, e5, h1, g0, g1⟩ => exact ⟨e0, e1, e2, e3, e4, e5, h1, g0.below hb, g1.below hb⟩
  | 7, h => exact h
  | 8, ⟨e0, e1, e2, h1, g0⟩ => exact ⟨e0, e1, e2, h1, g0.below hb⟩
  | 9, ⟨e0, h1, g0⟩ => exact ⟨e0, h1, g0.below hb⟩
  | 10, ⟨e0, e1, e2, e3, h1, g0, g1⟩ => exact ⟨e0, e1, e2, e3, h1, g0.below hb, g1.below hb⟩
  | 11, ⟨e0, e1, e2, e3, e4, e5, h1, g0, g1⟩ => exact ⟨e0, e1, e2, e3, e4, e5, h1, g0.below hb, g1.below hb⟩
  | _ + 12, ⟨e0, h1, g0, g1⟩ => exact ⟨e0, h1, g0.below hb, g1.below hb⟩
 case hS22 => exact (Below.refl _ _).drew
 case hop22 =>
  refine .cons (k := 0) ?_ (.cons (k := 1) ?_ (.cons (k := 2) ?_ (.cons (k := 3) ?_ (.cons (k := 4) ?_ (.cons (k := 5) ?_ (.cons (k := 6) ?_ (.cons (k := 7) ?_ (.cons (k := 8) ?_ (.cons (k := 9) ?_ (.cons (k := 10) ?_ (.cons (k := 11) ?_ (.cons (k := 12) ?_ (.nil)))))))))))))
  all_goals intro vals wr hS hd KC hK
  all_goals (show Oper.wp _ _ _ _ _ _; dsimp only)
  · have z0 := (HR0.out.below hS).c0
    have z1 := (HR0.out.below hS).c1
    have z2 := (HR0.out.below hS).c2
    go_simp
    refine hK _ _ rfl (Below.refl _ _) (by first | rfl | simp) (fun h => by cases h)
  · go_simp
    refine hK _ _ rfl (Below.refl _ _) (by first | rfl | simp) (fun h => by cases h)
  · have d1 : vals 1 = _ := hd 1 (by decide +kernel)
    rw [d1]
    go_simp
    go_at_call 67
    with_reducible refine (ten_w p _ rfl T HT.out _ HP.out 7 HTl.out).mono ?_
    rintro e w2 ⟨r0, r1, r2, rfl, f0, bn_r⟩
    refine hK _ _ rfl bn_r ⟨_, _, _, rfl, f0⟩ (fun h => by cases h)
  · obtain ⟨A_2_0, n_2_1, n_2_2, d2, h_2_0⟩ := hd 2 (by decide +kernel)
    rw [d2]
    go_simp
    go_at_call 66
    with_reducible refine (refMake_c h_2_0 (by decide) (T : Int) rfl).mono ?_
    rintro e w2 ⟨r0, r1, r2, rfl, f0, bn_r⟩
    refine hK _ _ rfl bn_r ⟨_, _, _, rfl, f0⟩ (fun h => by cases h)
  · go_simp
    refine hK _ _ rfl (below_new _ _) ⟨_, rfl, lit_one wr⟩ (fun h => by cases h)
  · obtain ⟨A_3_0, n_3_1, n_3_2, d3, h_3_0⟩ := hd 3 (by decide +kernel)
    obtain ⟨n_4_0, d4, h_4_0⟩ := hd 4 (by decide +kernel)
    rw [d3, d4]
    go_simp
    refine hK _ _ rfl (Below.refl _ _) ⟨_, _, _, _, rfl, h_3_0, h_4_0⟩ (fun h => by cases h)
  · have d0 : vals 0 = _ := hd 0 (by decide +kernel)
    obtain ⟨A_5_0, n_5_1, n_5_2, n_5_3, d5, h_5_0, h_5_1⟩ := hd 5 (by decide +kernel)
    rw [d0, d5]
    go_simp
    go_at_call 65
    with_reducible refine (refTimes_c (HX.out.below hS) (HY.out.below hS) h_5_0 (nn_more h_5_1 (by decide)) (by decide) (by decide) q.den_nz (by decide) mq HM.out).mono ?_
    rintro e w2 ⟨r0, r1, r2, r3, r4, r5, rfl, f0, f1, bn_r⟩
    refine hK _ _ rfl bn_r ⟨_, _, _, _, _, _, rfl, f0, f1⟩ (fun h => by cases h)
  · have z0 := (HV.out.below hS).c0
    have z1 := (HV.out.below hS).c1
    go_simp
    refine hK _ _ rfl (Below.refl _ _) (by first | rfl | simp) (fun h => by cases h)
  · have d7 : vals 7 = _ := hd 7 (by decide +kernel)
    rw [d7]
    go_simp
    go_at_call 68
    with_reducible refine (refINeg_c (H2.out.below hS) (by decide) (-z) rfl).mono ?_
    rintro e w2 ⟨r0, r1, r2, rfl, f0, bn_r⟩
    refine hK _ _ rfl bn_r ⟨_, _, _, rfl, f0⟩ (fun h => by cases h)
  · go_simp
    refine hK _ _ rfl (below_new _ _) ⟨_, rfl, lit_one wr⟩ (fun h => by cases h)
  · obtain ⟨A_8_0, n_8_1, n_8_2, d8, h_8_0⟩ := hd 8 (by decide +kernel)
    obtain ⟨n_9_0, d9, h_9_0⟩ := hd 9 (by decide +kernel)
    rw [d8, d9]
    go_simp
    refine hK _ _ rfl (Below.refl _ _) ⟨_, _, _, _, rfl, h_8_0, h_9_0⟩ (fun h => by cases h)
  · obtain ⟨A_6_0, n_6_1, n_6_2, A_6_3, n_6_4, n_6_5, d6, h_6_0, h_6_1⟩ := hd 6 (by decide +kernel)
    obtain ⟨A_10_0, n_10_1, n_10_2, n_10_3, d10, h_10_0, h_10_1⟩ := hd 10 (by decide +kernel)
    rw [d6, d10]
    go_simp
    go_at_call 64
    with_reducible refine (refPlus_c h_6_0 h_6_1 h_10_0 (nn_more h_10_1 (by decide)) (by decide) (by decide) mq.den_nz (by decide) zz HZZ.out dq HDQ.out).mono ?_
    rintro e w2 ⟨r0, r1, r2, r3, r4, r5, rfl, f0, f1, bn_r⟩
    refine hK _ _ rfl bn_r ⟨_, _, _, _, _, _, rfl, f0, f1⟩ (fun h => by cases h)
  · go_simp
    refine hK _ _ rfl (below_new _ _) ⟨_, rfl, row3_new wr _ _ _ _, hS.size⟩ (fun _ => ⟨_, rfl, Nat.le_refl _, by rw [World.size_alloc]; omega⟩)
 case hfin22 =>
  intro vals wr hS hP hne
  obtain ⟨A_11_0, n_11_1, n_11_2, A_11_3, n_11_4, n_11_5, ez_11, h_11_0, h_11_1⟩ := hP 11 (by decide)
  obtain ⟨n_12_0, ez_12, h_12_0, h_12_1⟩ := hP 12 (by decide)
  have hG := h_12_0
  have hO := h_12_1
  have hNo := hG.noLimb (by intro v e; cases e) (by intro v e; cases e) (by intro v e; cases e)
  have e0 := hG.c0
  have e1 := hG.c1
  have e2 := hG.c2
  have f0 := hG.free 0
  have f1 := hG.free 1
  have f2 := hG.free 2
  have hlt := Nat.lt_trans HFr.out (lt_pow h_11_1)
  have HDN := Lib.hid ((ZZ.mk (h_11_0.nn.relax hlt) h_11_0.sgn).fillR3 hNo (.bool (sg dq.num)) (.slice A_11_0 n_11_1 n_11_2) (.slice A_11_3 n_11_4 n_11_5))
  have HDD := Lib.hid (h_11_1.fillR3 hNo (.bool (sg dq.num)) (.slice A_11_0 n_11_1 n_11_2) (.slice A_11_3 n_11_4 n_11_5))
  have HG := Lib.hid (hG.fill (.bool (sg dq.num)) (.slice A_11_0 n_11_1 n_11_2) (.slice A_11_3 n_11_4 n_11_5))
  have hB := below_fill3' hS hO (.bool (sg dq.num)) (.slice A_11_0 n_11_1 n_11_2) (.slice A_11_3 n_11_4 n_11_5)
  replace HV := Lib.hid (HV.out.below hB)
  replace H2 := Lib.hid (H2.out.below hB)
  replace HW := Lib.hid (below_two HW.out hB)
  clear hB hNo hG hO hlt
  try dsimp only
  rw [ez_11, ez_12]
  refine wpAny_ready (rs := [13]) (by kernel_rfl) (by simp) (AllReady.cons rfl (fun KC hK => ?_) AllReady.nil)
  go_simp
  refine hK _ _ ?_
  clear hK KC
  refine wpAny_done (by kernel_rfl) ?_ _
  generalize ((wr.setCell ⟨n_12_0, 0, none⟩ (.bool (sg dq.num))).setCell ⟨n_12_0, 1, none⟩ (.slice A_11_0 n_11_1 n_11_2)).setCell ⟨n_12_0, 2, none⟩ (.slice A_11_3 n_11_4 n_11_5) = w8 at *
  clear e0 e1 e2 f0 f1 f2
  have d0 := HG.out.c0
  have d1 := HG.out.c1
  have d2 := HG.out.c2
  go_wp2_with fail
  clear d0 d1 d2
  refine (refPlus_c HDN.out HDD.out HDN.out HDD.out (by decide) (by decide) dq.den_nz dq.den_nz z2 HZ2.out ee HEE.out).mono ?_
  rintro e w9 ⟨A5, n5, c5, B5, m5, d5, rfl, h5, k5, bn⟩
  have H5 := Lib.hid h5
  have K5 := Lib.hid k5
  replace HV := Lib.hid (HV.out.below bn)
  replace H2 := Lib.hid (H2.out.below bn)
  replace HW := Lib.hid (below_two HW.out bn)
  clear bn h5 k5
  go_wp2_with fail
  refine (refQWhole1_c _).mono ?_
  rintro e w10 ⟨A6, n6, c6, B6, m6, d6, rfl, h6, bn⟩
  have H6 := Lib.hid h6
  replace HV := Lib.hid (HV.out.below bn)
  replace H2 := Lib.hid (H2.out.below bn)
  replace H5 := Lib.hid (H5.out.below bn)
  replace K5 := Lib.hid (K5.out.below bn)
  replace HW := Lib.hid (below_two HW.out bn)
  clear bn h6
  go_wp2_with fail
  refine (refLess_c H5.out (nn_more K5.out (by decide)) (QQ.some H6.out).2.2.2.2.1 (QQ.some H6.out).2.2.2.2.2.1 (by decide) (by decide) v HVV.out).mono ?_
  rintro e w11 ⟨rfl, bn⟩
  replace HV := Lib.hid (HV.out.below bn)
  replace H2 := Lib.hid (H2.out.below bn)
  replace HW := Lib.hid (below_two HW.out bn)
  clear bn H5 K5 H6
  clear HDN HDD HG HM HDQ HEE HVV HFr HT HTl HX HY HR0
  rcases HVB.out with hv | hv | hv
  · subst hv
    have HE : RowKit.Hid (zn = z) := by show _ = _; rw [HZN.out]; exact if_neg (by rintro (h | ⟨h, _⟩); exact absurd h (by decide); exact absurd h (by decide))
    rw [HE.out] at HS
    clear HZN HE
    have v0 := HV.out.c0
    have v1 := HV.out.c1
    go_wp2_with fail
    clear v0 v1
    refine (refDPoint_c H2.out (by decide) p hp S HS.out).mono ?_
    rintro e w10 ⟨rfl, bn⟩
    replace HW := Lib.hid (below_two HW.out bn)
    clear bn
    go_wp2
    go_ret
    exact ⟨rfl, HW.out⟩
  · subst hv
    by_cases hb : z.natAbs % 2 = 1
    · have HB0 : RowKit.Hid (z.natAbs.testBit (0 : Int).toNat = true) := by show _ = _; rw [bit_odd]; exact decide_eq_true hb
      have HE : RowKit.Hid (z + 1 = zn) := by show _ = _; rw [HZN.out]; exact (if_pos (.inr ⟨rfl, hb⟩)).symm
      clear HZN
      clear hb
      have y1 := HV.out.c1
      go_wp2_with fail
      clear y1
      refine (refBit_c H2.out.nn (by decide) 0 (by decide) (by decide) true HB0.out).mono ?_
      rintro e w12 ⟨rfl, rfl⟩
      go_wp2
      refine region_free 3 1 [39, 40, 41] ?aF20 (fun wx => Below w11.heap.size w11 wx) (fun k vv wx => match k with
       | 0 => vv = .agg #[.bool (sg z), .slice A2 n2 c2]
       | 1 => ∃ (e0 : Option Addr) (e1 : Nat) (e2 : Nat), vv = .agg #[.bool (sg (1 : Int)), .slice e0 e1 e2] ∧ ZZ wx (sg (1 : Int)) e0 e1 e2 (limbs (1 : Int).natAbs) (1 : Int) 2
       | _ => ∃ (e0 : Option Addr) (e1 : Nat) (e2 : Nat), vv = .agg #[.bool (sg zn), .slice e0 e1 e2] ∧ ZZ wx (sg zn) e0 e1 e2 (limbs zn.natAbs) zn (74 + 2 + 1))
       (fun k => false) (by kernel_rfl) ?haF20 rfl (by kernel_rfl) (by kernel_rfl) (fun _ _ _ _ _ h => h) ?hSb20 ?hPb20 ?hS20 ?hop20 ?hfin20
      case haF20 =>
       intro vals
       simp only [fillAll, List.getElem?_cons_zero, List.getElem?_cons_succ, Act.put, List.setIfInBounds_toArray, List.set_cons_zero, List.set_cons_succ]
       exact rfl
      case hSb20 => exact fun wx w2 hb hS => below_two hS hb
      case hPb20 =>
       intro k v wa wb hb h
       match k, h with
       | 0, h => exact h
       | 1, ⟨e0, e1, e2, h1, g0⟩ => exact ⟨e0, e1, e2, h1, g0.below hb⟩
       | _ + 2, ⟨e0, e1, e2, h1, g0⟩ => exact ⟨e0, e1, e2, h1, g0.below hb⟩
      case hS20 => exact (Below.refl _ _).drew
      case hop20 =>
       refine .cons (k := 0) ?_ (.cons (k := 1) ?_ (.cons (k := 2) ?_ (.nil)))
       all_goals intro vals wr hS hd KC hK
       all_goals (show Oper.wp _ _ _ _ _ _; dsimp only)
       · have z0 := (HV.out.below hS).c0
         have zn := (HV.out.below hS).c1
         go_simp
         refine hK _ _ rfl (Below.refl _ _) (by first | rfl | simp) (fun h => by cases h)
       · go_simp
         go_at_call 63
         with_reducible refine (refIOf_c 1 (by decide) (by decide) _).mono ?_
         rintro e w2 ⟨r0, r1, r2, rfl, f0, bn_r⟩
         refine hK _ _ rfl bn_r ⟨_, _, _, rfl, f0⟩ (fun h => by cases h)
       · have d0 : vals 0 = _ := hd 0 (by decide +kernel)
         obtain ⟨A_1_0, n_1_1, n_1_2, d1, h_1_0⟩ := hd 1 (by decide +kernel)
         rw [d0, d1]
         go_simp
         go_at_call 62
         with_reducible refine (refIAdd_c (H2.out.below hS) h_1_0 (by decide) (by decide) zn HE.out).mono ?_
         rintro e w2 ⟨r0, r1, r2, rfl, f0, bn_r⟩
         refine hK _ _ rfl bn_r ⟨_, _, _, rfl, f0⟩ (fun h => by cases h)
      case hfin20 =>
       intro vals wr hS hP hne
       obtain ⟨A_2_0, n_2_1, n_2_2, ez_2, h_2_0⟩ := hP 2 (by decide)
       have hv := HV.out.below hS
       have e0 := hv.c0
       have e1 := hv.c1
       have f0 := hv.free 0
       have f1 := hv.free 1
       have HV2 := Lib.hid (hv.filled (.bool (sg zn)) (.slice A_2_0 n_2_1 n_2_2))
       have H9 : RowKit.Hid (ZZ ((wr.setCell ⟨g6, 0, none⟩ (.bool (sg zn))).setCell ⟨g6, 1, none⟩ (.slice A_2_0 n_2_1 n_2_2)) (sg zn) A_2_0 n_2_1 n_2_2 (limbs zn.natAbs) zn (74 + 2 + 1)) := ⟨h_2_0.nn.put2 hv (.bool (sg zn)) (.slice A_2_0 n_2_1 n_2_2), h_2_0.sgn⟩
       have hB := below_fill (below_two HW.out hS) HG6.out (.bool (sg zn)) (.slice A_2_0 n_2_1 n_2_2)
       replace HW := Lib.hid hB
       clear hB hv HV
       try dsimp only
       rw [ez_2]
       refine wpAny_ready (rs := [3]) (by kernel_rfl) (by simp) (AllReady.cons rfl (fun KC hK => ?_) AllReady.nil)
       go_simp
       refine hK _ _ ?_
       clear hK KC
       refine wpAny_done (by kernel_rfl) ?_ _
       generalize (wr.setCell ⟨g6, 0, none⟩ (.bool (sg zn))).setCell ⟨g6, 1, none⟩ (.slice A_2_0 n_2_1 n_2_2) = w9 at *
       clear e0 e1 f0 f1
       have HV := HV2
       have v0 := HV.out.c0
       have v1 := HV.out.c1
       go_wp2_with fail
       clear v0 v1
       refine (refDPoint_c H9.out (by decide) p hp S HS.out).mono ?_
       rintro e w10 ⟨rfl, bn⟩
       replace HW := Lib.hid (below_two HW.out bn)
       clear bn
       go_wp2
       go_ret
       exact ⟨rfl, HW.out⟩
    · have HB0 : RowKit.Hid (z.natAbs.testBit (0 : Int).toNat = false) := by show _ = _; rw [bit_odd]; exact decide_eq_false hb
      have HE : RowKit.Hid (zn = z) := by show _ = _; rw [HZN.out]; exact if_neg (by rintro (h | ⟨_, h⟩); exact absurd h (by decide); exact hb h)
      rw [HE.out] at HS
      clear HZN HE
      clear hb
      have y1 := HV.out.c1
      go_wp2_with fail
      clear y1
      refine (refBit_c H2.out.nn (by decide) 0 (by decide) (by decide) false HB0.out).mono ?_
      rintro e w12 ⟨rfl, rfl⟩
      have v0 := HV.out.c0
      have v1 := HV.out.c1
      go_wp2_with fail
      clear v0 v1
      refine (refDPoint_c H2.out (by decide) p hp S HS.out).mono ?_
      rintro e w10 ⟨rfl, bn⟩
      replace HW := Lib.hid (below_two HW.out bn)
      clear bn
      go_wp2
      go_ret
      exact ⟨rfl, HW.out⟩
  · subst hv
    have HE : RowKit.Hid (z + 1 = zn) := by show _ = _; rw [HZN.out]; exact (if_pos (.inl (by decide))).symm
    clear HZN
    go_wp2
    refine region_free 3 1 [39, 40, 41] ?aF21 (fun wx => Below w11.heap.size w11 wx) (fun k vv wx => match k with
     | 0 => vv = .agg #[.bool (sg z), .slice A2 n2 c2]
     | 1 => ∃ (e0 : Option Addr) (e1 : Nat) (e2 : Nat), vv = .agg #[.bool (sg (1 : Int)), .slice e0 e1 e2] ∧ ZZ wx (sg (1 : Int)) e0 e1 e2 (limbs (1 : Int).natAbs) (1 : Int) 2
     | _ => ∃ (e0 : Option Addr) (e1 : Nat) (e2 : Nat), vv = .agg #[.bool (sg zn), .slice e0 e1 e2] ∧ ZZ wx (sg zn) e0 e1 e2 (limbs zn.natAbs) zn (74 + 2 + 1))
     (fun k => false) (by kernel_rfl) ?haF21 rfl (by kernel_rfl) (by kernel_rfl) (fun _ _ _ _ _ h => h) ?hSb21 ?hPb21 ?hS21 ?hop21 ?hfin21
    case haF21 =>
     intro vals
     simp only [fillAll, List.getElem?_cons_zero, List.getElem?_cons_succ, Act.put, List.setIfInBounds_toArray, List.set_cons_zero, List.set_cons_succ]
     exact rfl
    case hSb21 => exact fun wx w2 hb hS => below_two hS hb
    case hPb21 =>
     intro k v wa wb hb h
     match k, h with
     | 0, h => exact h
     | 1, ⟨e0, e1, e2, h1, g0⟩ => exact ⟨e0, e1, e2, h1, g0.below hb⟩
     | _ + 2, ⟨e0, e1, e2, h1, g0⟩ => exact ⟨e0, e1, e2, h1, g0.below hb⟩
    case hS21 => exact (Below.refl _ _).drew
    case hop21 =>
     refine .cons (k := 0) ?_ (.cons (k := 1) ?_ (.cons (k := 2) ?_ (.nil)))
     all_goals intro vals wr hS hd KC hK
     all_goals (show Oper.wp _ _ _ _ _ _; dsimp only)
     · have z0 := (HV.out.below hS).c0
       have zn := (HV.out.below hS).c1
       go_simp
       refine hK _ _ rfl (Below.refl _ _) (by first | rfl | simp) (fun h => by cases h)
     · go_simp
       go_at_call 63
       with_reducible refine (refIOf_c 1 (by decide) (by decide) _).mono ?_
       rintro e w2 ⟨r0, r1, r2, rfl, f0, bn_r⟩
       refine hK _ _ rfl bn_r ⟨_, _, _, rfl, f0⟩ (fun h => by cases h)
     · have d0 : vals 0 = _ := hd 0 (by decide +kernel)
       obtain ⟨A_1_0, n_1_1, n_1_2, d1, h_1_0⟩ := hd 1 (by decide +kernel)
       rw [d0, d1]
       go_simp
       go_at_call 62
       with_reducible refine (refIAdd_c (H2.out.below hS) h_1_0 (by decide) (by decide) zn HE.out).mono ?_
       rintro e w2 ⟨r0, r1, r2, rfl, f0, bn_r⟩
       refine hK _ _ rfl bn_r ⟨_, _, _, rfl, f0⟩ (fun h => by cases h)
    case hfin21 =>
     intro vals wr hS hP hne
     obtain ⟨A_2_0, n_2_1, n_2_2, ez_2, h_2_0⟩ := hP 2 (by decide)
     have hv := HV.out.below hS
     have e0 := hv.c0
     have e1 := hv.c1
     have f0 := hv.free 0
     have f1 := hv.free 1
     have HV2 := Lib.hid (hv.filled (.bool (sg zn)) (.slice A_2_0 n_2_1 n_2_2))
     have H9 : RowKit.Hid (ZZ ((wr.setCell ⟨g6, 0, none⟩ (.bool (sg zn))).setCell ⟨g6, 1, none⟩ (.slice A_2_0 n_2_1 n_2_2)) (sg zn) A_2_0 n_2_1 n_2_2 (limbs zn.natAbs) zn (74 + 2 + 1)) := ⟨h_2_0.nn.put2 hv (.bool (sg zn)) (.slice A_2_0 n_2_1 n_2_2), h_2_0.sgn⟩
     have hB := below_fill (below_two HW.out hS) HG6.out (.bool (sg zn)) (.slice A_2_0 n_2_1 n_2_2)
     replace HW := Lib.hid hB
     clear hB hv HV
     try dsimp only
     rw [ez_2]
     refine wpAny_ready (rs := [3]) (by kernel_rfl) (by simp) (AllReady.cons rfl (fun KC hK => ?_) AllReady.nil)
     go_simp
     refine hK _ _ ?_
     clear hK KC
     refine wpAny_done (by kernel_rfl) ?_ _
     generalize (wr.setCell ⟨g6, 0, none⟩ (.bool (sg zn))).setCell ⟨g6, 1, none⟩ (.slice A_2_0 n_2_1 n_2_2) = w9 at *
     clear e0 e1 f0 f1
     have HV := HV2
     have v0 := HV.out.c0
     have v1 := HV.out.c1
     go_wp2_with fail
     clear v0 v1
     refine (refDPoint_c H9.out (by decide) p hp S HS.out).mono ?_
     rintro e w10 ⟨rfl, bn⟩
     replace HW := Lib.hid (below_two HW.out bn)
     clear bn
     go_wp2
     go_ret
     exact ⟨rfl, HW.out⟩
end
end Go.Proofs.YtjikaojffgjndaaGreatDoor

/- What the reference's Parse of layer 6 answers, as a contract over memory. No condition. -/
namespace Go.Proofs.YtjikaojffgjndaaGreatDoor
open Go.RowKit Limb
set_option linter.unusedVariables false
theorem ZZ.put3 {w : World} {s : Bool} {A : Option Addr} {n c : Nat} {xs : List Nat} {z : Int} {L g : Nat} {T : TypeId} {b0 b1 : Bool} {A0 : Option Addr} {n0 c0 : Nat} (h : ZZ w s A n c xs z L) (hb : Row3 w g T (.bool b0) (.slice A0 n0 c0) (.bool b1)) (u v x : Value) :
 ZZ (((w.setCell ⟨g, 0, none⟩ u).setCell ⟨g, 1, none⟩ v).setCell ⟨g, 2, none⟩ x) s A n c xs z L := by
 have hA : Apart g A n := by
  intro hn b' o s' e
  obtain ⟨b, o2, e2, hlt, hc⟩ := h.nn.isN.2.2 hn
  rw [e] at e2
  injection e2 with e2
  injection e2 with e3 e4
  subst e3
  rintro rfl
  have h1 := hc 0 hn
  unfold Row3 at hb
  match o2, h1 with
  | 0, h1 => simp [World.cell?, hb] at h1
  | 1, h1 => simp [World.cell?, hb] at h1
  | 2, h1 => simp [World.cell?, hb] at h1
  | o + 3, h1 => simp [World.cell?, hb] at h1
 exact ⟨((h.nn.elsewhere hA 0 u).elsewhere hA 1 v).elsewhere hA 2 x, h.sgn⟩
theorem got6_size : (Tryz.prog.info? 72).map (·.size) = some 3 := by kernel_rfl
theorem refParse_v (s : ByteArray) (w : World) (v : Bool) (hv : numOk (bytesOf s) = v) (m : Nat) (hm : numV (bytesOf s) = m) :
 Calls Tryz.prog 47 #[.string s] w fun e w' => ∃ A1 n1 c1, e = .returned (.agg #[.slice A1 n1 c1, .bool v]) ∧ NN w' A1 n1 c1 (limbs m) m 223 ∧ Below w.heap.size w w' := by
 subst hv; subst hm; exact refParse_c s w
theorem lim_head {l : List Nat} {x : Nat} (h : l.head? = some x) : lim l 0 = x := by
 cases l with
 | nil => cases h
 | cons y l => injection h
theorem head_lim {l : List Nat} {x : Nat} (hl : 0 < l.length) (h : lim l 0 = x) : l.head? = some x := by
 cases l with
 | nil => simp at hl
 | cons y l => rw [← h]; rfl
set_option maxHeartbeats 4000000 in
set_option maxRecDepth 100000 in
theorem refIParse_c (t : ByteArray) (w : World) (v : Bool) (hv : zOk (bytesOf t) = v) (z : Int) (hz : zV (bytesOf t) = z) :
 Calls Tryz.prog 46 #[.string t] w fun e w' => ∃ A2 n2 c2, e = .returned (.agg #[.bool (sg z), .slice A2 n2 c2, .bool v]) ∧ ZZ w' (sg z) A2 n2 c2 (limbs z.natAbs) z 223 ∧ Below w.heap.size w w' := by
 have HW := Lib.hid (below_new w (.cells #[Value.bool false, Value.slice none 0 0, Value.bool false] 72))
 have HG := Lib.hid (row3_new w 72 (.bool false) (.slice none 0 0) (.bool false))
 by_cases hp : 0 < t.size
 · by_cases hm : (bytesOf t).head? = Option.some 45
   · rw [zOk_minus hm] at hv
     rw [zV_minus hm] at hz
     obtain ⟨k, hk⟩ : ∃ k, numOk (bytesOf t).tail = k := ⟨_, rfl⟩
     obtain ⟨m, hmm⟩ : ∃ m, numV (bytesOf t).tail = m := ⟨_, rfl⟩
     rw [hk, hmm] at hv
     rw [hmm] at hz
     have hk0 : k = false → m = 0 := fun h => by rw [← hmm]; exact numV_no (hk.trans h)
     obtain ⟨d, hd⟩ : ∃ d, (t[0]'hp).toNat = d := ⟨_, rfl⟩
     have hdl : d = lim (bytesOf t) 0 := by rw [← hd, Limb.byte_at t 0 hp]
     have hpi : (0 : Int) < (t.size : Int) := by omega
     have e45 : d = 45 := by rw [hdl]; exact lim_head hm
     subst e45
     obtain ⟨R, hR⟩ : ∃ R, t.extract 1 t.size = R := ⟨_, rfl⟩
     have hRb := bytesOf_tail (S := t) hp
     rw [hR] at hRb
     rw [← hRb] at hk hmm
     have hp1 : (1 : Int) ≤ (t.size : Int) := by omega
     clear hdl
     have HK := Lib.hid hk
     have HM := Lib.hid hmm
     clear hk hmm hm hRb
     go_enter Tryz.func46, Tryz.ntmps46
     go_wp2_with fail
     refine (refParse_v R _ k HK.out m HM.out).mono ?_
     rintro e w2 ⟨A1, n1, c1, rfl, h1, bn⟩
     have bg := below_new w2 (.cells #[Value.slice A1 n1 c1, Value.bool k] 76)
     have BN := Lib.hid (below_two bn bg)
     have hn : n1 = 0 ↔ m = 0 := by rw [← h1.isN.len]; exact len_limbs_zero
     have d0 := (row2_new w2 76 (.slice A1 n1 c1) (.bool k)).c0
     have d1 := (row2_new w2 76 (.slice A1 n1 c1) (.bool k)).c1
     by_cases hk1 : k = true
     · subst hk1
       by_cases em : m = 0
       · have en : n1 = 0 := hn.2 em
         subst en
         subst em
         have ev : v = false := by rw [← hv]; simp
         subst ev
         have ez : z = 0 := by rw [← hz]; rfl
         subst ez
         clear hv hz hk0 hn
         have e0 := (HG.out.below BN.out).c0
         have e1 := (HG.out.below BN.out).c1
         have e2 := (HG.out.below BN.out).c2
         have f0 := (HG.out.below BN.out).free 0
         have f1 := (HG.out.below BN.out).free 1
         have f2 := (HG.out.below BN.out).free 2
         clear h1 bn
         have HF := Lib.hid ((HG.out.below BN.out).fill (.bool false) (.slice none 0 0) (.bool false))
         have HB := Lib.hid (below_fill3' (g := w.heap.size) (below_two HW.out BN.out) (Nat.le_refl _) (.bool false) (.slice none 0 0) (.bool false))
         go_wp2
         refine bodyPost_ret (results_cell_row rfl _ _ w.heap.size 72 #[.bool false, .slice none 0 0, .bool false] (0, 0) _ rfl HF.out Tryz.underlying72 rfl got6_size) rfl ?_
         exact ⟨none, 0, 0, rfl, ⟨⟨IsN.nil _ _, rfl, Nat.le_refl _, Nat.zero_le _⟩, rfl⟩, HB.out⟩
       · have ev : v = true := by rw [← hv]; simp [em]
         subst ev
         have hn0 : ((n1 : Int) == 0) = false := by
          rw [beq_eq_false_iff_ne]
          have := mt hn.1 em
          omega
         have HS : RowKit.Hid (zOf true m = z) := by
          show _ = _
          rw [← hz]; rfl
         clear hv hz hk0 hn em
         go_wp2_with fail
         refine (refMake_c (h1.below bg) (by decide) z HS.out).mono ?_
         rintro e w4 ⟨A4, n4, c4, rfl, h4, bm⟩
         have BM := Lib.hid (below_two BN.out bm)
         clear h1 bn bg d0 d1
         have e0 := (HG.out.below BM.out).c0
         have e1 := (HG.out.below BM.out).c1
         have e2 := (HG.out.below BM.out).c2
         have f0 := (HG.out.below BM.out).free 0
         have f1 := (HG.out.below BM.out).free 1
         have f2 := (HG.out.below BM.out).free 2
         have HF := Lib.hid ((HG.out.below BM.out).fill (.bool (sg z)) (.slice A4 n4 c4) (.bool true))
         have HB := Lib.hid (below_fill3' (g := w.heap.size) (below_two HW.out BM.out) (Nat.le_refl _) (.bool (sg z)) (.slice A4 n4 c4) (.bool true))
         have HP := Lib.hid (h4.put3 (HG.out.below BM.out) (.bool (sg z)) (.slice A4 n4 c4) (.bool true))
         clear h4 bm
         go_wp2
         refine bodyPost_ret (results_cell_row rfl _ _ w.heap.size 72 #[.bool (sg z), .slice A4 n4 c4, .bool true] (0, 0) _ rfl HF.out Tryz.underlying72 rfl got6_size) rfl ?_
         exact ⟨A4, n4, c4, rfl, HP.out, HB.out⟩
     · have hk2 : k = false := by simpa using hk1
       have em : m = 0 := hk0 hk2
       subst hk2
       subst em
       have ev : v = false := by rw [← hv]; rfl
       subst ev
       have ez : z = 0 := by rw [← hz]; rfl
       subst ez
       clear hv hz hk0 hk1 hn
       have e0 := (HG.out.below BN.out).c0
       have e1 := (HG.out.below BN.out).c1
       have e2 := (HG.out.below BN.out).c2
       have f0 := (HG.out.below BN.out).free 0
       have f1 := (HG.out.below BN.out).free 1
       have f2 := (HG.out.below BN.out).free 2
       clear h1 bn
       have HF := Lib.hid ((HG.out.below BN.out).fill (.bool false) (.slice none 0 0) (.bool false))
       have HB := Lib.hid (below_fill3' (g := w.heap.size) (below_two HW.out BN.out) (Nat.le_refl _) (.bool false) (.slice none 0 0) (.bool false))
       go_wp2
       refine bodyPost_ret (results_cell_row rfl _ _ w.heap.size 72 #[.bool false, .slice none 0 0, .bool false] (0, 0) _ rfl HF.out Tryz.underlying72 rfl got6_size) rfl ?_
       exact ⟨none, 0, 0, rfl, ⟨⟨IsN.nil _ _, rfl, Nat.le_refl _, Nat.zero_le _⟩, rfl⟩, HB.out⟩
   · rw [zOk_plain hm] at hv
     rw [zV_plain hm] at hz
     obtain ⟨k, hk⟩ : ∃ k, numOk (bytesOf t) = k := ⟨_, rfl⟩
     obtain ⟨m, hmm⟩ : ∃ m, numV (bytesOf t) = m := ⟨_, rfl⟩
     rw [hk] at hv
     rw [hmm] at hz
     have hk0 : k = false → m = 0 := fun h => by rw [← hmm]; exact numV_no (hk.trans h)
     obtain ⟨d, hd⟩ : ∃ d, (t[0]'hp).toNat = d := ⟨_, rfl⟩
     have hdl : d = lim (bytesOf t) 0 := by rw [← hd, Limb.byte_at t 0 hp]
     have hpi : (0 : Int) < (t.size : Int) := by omega
     have hd45 : ((d : Int) == 45) = false := by
      rw [beq_eq_false_iff_ne]
      intro e
      exact hm (head_lim (by rw [length_bytesOf]; exact hp) (by rw [← hdl]; omega))
     clear hdl
     have HK := Lib.hid hk
     have HM := Lib.hid hmm
     clear hk hmm hm
     go_enter Tryz.func46, Tryz.ntmps46
     go_wp2_with fail
     refine (refParse_v t _ k HK.out m HM.out).mono ?_
     rintro e w2 ⟨A1, n1, c1, rfl, h1, bn⟩
     have bg := below_new w2 (.cells #[Value.slice A1 n1 c1, Value.bool k] 76)
     have BN := Lib.hid (below_two bn bg)
     have hn : n1 = 0 ↔ m = 0 := by rw [← h1.isN.len]; exact len_limbs_zero
     have d0 := (row2_new w2 76 (.slice A1 n1 c1) (.bool k)).c0
     have d1 := (row2_new w2 76 (.slice A1 n1 c1) (.bool k)).c1
     by_cases hk1 : k = true
     · subst hk1
       have ev : v = true := hv.symm
       subst ev
       have HS : RowKit.Hid (zOf false m = z) := by
        show _ = _
        rw [← hz]; rfl
       clear hv hz hk0 hn
       go_wp2_with fail
       refine (refMake_c (h1.below bg) (by decide) z HS.out).mono ?_
       rintro e w4 ⟨A4, n4, c4, rfl, h4, bm⟩
       have BM := Lib.hid (below_two BN.out bm)
       clear h1 bn bg d0 d1
       have e0 := (HG.out.below BM.out).c0
       have e1 := (HG.out.below BM.out).c1
       have e2 := (HG.out.below BM.out).c2
       have f0 := (HG.out.below BM.out).free 0
       have f1 := (HG.out.below BM.out).free 1
       have f2 := (HG.out.below BM.out).free 2
       have HF := Lib.hid ((HG.out.below BM.out).fill (.bool (sg z)) (.slice A4 n4 c4) (.bool true))
       have HB := Lib.hid (below_fill3' (g := w.heap.size) (below_two HW.out BM.out) (Nat.le_refl _) (.bool (sg z)) (.slice A4 n4 c4) (.bool true))
       have HP := Lib.hid (h4.put3 (HG.out.below BM.out) (.bool (sg z)) (.slice A4 n4 c4) (.bool true))
       clear h4 bm
       go_wp2
       refine bodyPost_ret (results_cell_row rfl _ _ w.heap.size 72 #[.bool (sg z), .slice A4 n4 c4, .bool true] (0, 0) _ rfl HF.out Tryz.underlying72 rfl got6_size) rfl ?_
       exact ⟨A4, n4, c4, rfl, HP.out, HB.out⟩
     · have hk2 : k = false := by simpa using hk1
       have em : m = 0 := hk0 hk2
       subst hk2
       subst em
       have ev : v = false := by rw [← hv]
       subst ev
       have ez : z = 0 := by rw [← hz]; rfl
       subst ez
       clear hv hz hk0 hk1 hn
       have e0 := (HG.out.below BN.out).c0
       have e1 := (HG.out.below BN.out).c1
       have e2 := (HG.out.below BN.out).c2
       have f0 := (HG.out.below BN.out).free 0
       have f1 := (HG.out.below BN.out).free 1
       have f2 := (HG.out.below BN.out).free 2
       clear h1 bn
       have HF := Lib.hid ((HG.out.below BN.out).fill (.bool false) (.slice none 0 0) (.bool false))
       have HB := Lib.hid (below_fill3' (g := w.heap.size) (below_two HW.out BN.out) (Nat.le_refl _) (.bool false) (.slice none 0 0) (.bool false))
       go_wp2
       refine bodyPost_ret (results_cell_row rfl _ _ w.heap.size 72 #[.bool false, .slice none 0 0, .bool false] (0, 0) _ rfl HF.out Tryz.underlying72 rfl got6_size) rfl ?_
       exact ⟨none, 0, 0, rfl, ⟨⟨IsN.nil _ _, rfl, Nat.le_refl _, Nat.zero_le _⟩, rfl⟩, HB.out⟩
 · have hB : t.size = 0 := by omega
   have hm : (bytesOf t).head? ≠ Option.some 45 := by
    rw [List.eq_nil_of_length_eq_zero ((length_bytesOf t).trans hB)]; simp
   clear hp
   rw [zOk_plain hm] at hv
   rw [zV_plain hm] at hz
   obtain ⟨k, hk⟩ : ∃ k, numOk (bytesOf t) = k := ⟨_, rfl⟩
   obtain ⟨m, hmm⟩ : ∃ m, numV (bytesOf t) = m := ⟨_, rfl⟩
   rw [hk] at hv
   rw [hmm] at hz
   have hk0 : k = false → m = 0 := fun h => by rw [← hmm]; exact numV_no (hk.trans h)
   have HK := Lib.hid hk
   have HM := Lib.hid hmm
   clear hk hmm hm
   go_enter Tryz.func46, Tryz.ntmps46
   go_wp2_with fail
   refine (refParse_v t _ k HK.out m HM.out).mono ?_
   rintro e w2 ⟨A1, n1, c1, rfl, h1, bn⟩
   have bg := below_new w2 (.cells #[Value.slice A1 n1 c1, Value.bool k] 76)
   have BN := Lib.hid (below_two bn bg)
   have hn : n1 = 0 ↔ m = 0 := by rw [← h1.isN.len]; exact len_limbs_zero
   have d0 := (row2_new w2 76 (.slice A1 n1 c1) (.bool k)).c0
   have d1 := (row2_new w2 76 (.slice A1 n1 c1) (.bool k)).c1
   by_cases hk1 : k = true
   · subst hk1
     have ev : v = true := hv.symm
     subst ev
     have HS : RowKit.Hid (zOf false m = z) := by
      show _ = _
      rw [← hz]; rfl
     clear hv hz hk0 hn
     go_wp2_with fail
     refine (refMake_c (h1.below bg) (by decide) z HS.out).mono ?_
     rintro e w4 ⟨A4, n4, c4, rfl, h4, bm⟩
     have BM := Lib.hid (below_two BN.out bm)
     clear h1 bn bg d0 d1
     have e0 := (HG.out.below BM.out).c0
     have e1 := (HG.out.below BM.out).c1
     have e2 := (HG.out.below BM.out).c2
     have f0 := (HG.out.below BM.out).free 0
     have f1 := (HG.out.below BM.out).free 1
     have f2 := (HG.out.below BM.out).free 2
     have HF := Lib.hid ((HG.out.below BM.out).fill (.bool (sg z)) (.slice A4 n4 c4) (.bool true))
     have HB := Lib.hid (below_fill3' (g := w.heap.size) (below_two HW.out BM.out) (Nat.le_refl _) (.bool (sg z)) (.slice A4 n4 c4) (.bool true))
     have HP := Lib.hid (h4.put3 (HG.out.below BM.out) (.bool (sg z)) (.slice A4 n4 c4) (.bool true))
     clear h4 bm
     go_wp2
     refine bodyPost_ret (results_cell_row rfl _ _ w.heap.size 72 #[.bool (sg z), .slice A4 n4 c4, .bool true] (0, 0) _ rfl HF.out Tryz.underlying72 rfl got6_size) rfl ?_
     exact ⟨A4, n4, c4, rfl, HP.out, HB.out⟩
   · have hk2 : k = false := by simpa using hk1
     have em : m = 0 := hk0 hk2
     subst hk2
     subst em
     have ev : v = false := by rw [← hv]
     subst ev
     have ez : z = 0 := by rw [← hz]; rfl
     subst ez
     clear hv hz hk0 hk1 hn
     have e0 := (HG.out.below BN.out).c0
     have e1 := (HG.out.below BN.out).c1
     have e2 := (HG.out.below BN.out).c2
     have f0 := (HG.out.below BN.out).free 0
     have f1 := (HG.out.below BN.out).free 1
     have f2 := (HG.out.below BN.out).free 2
     clear h1 bn
     have HF := Lib.hid ((HG.out.below BN.out).fill (.bool false) (.slice none 0 0) (.bool false))
     have HB := Lib.hid (below_fill3' (g := w.heap.size) (below_two HW.out BN.out) (Nat.le_refl _) (.bool false) (.slice none 0 0) (.bool false))
     go_wp2
     refine bodyPost_ret (results_cell_row rfl _ _ w.heap.size 72 #[.bool false, .slice none 0 0, .bool false] (0, 0) _ rfl HF.out Tryz.underlying72 rfl got6_size) rfl ?_
     exact ⟨none, 0, 0, rfl, ⟨⟨IsN.nil _ _, rfl, Nat.le_refl _, Nat.zero_le _⟩, rfl⟩, HB.out⟩
end Go.Proofs.YtjikaojffgjndaaGreatDoor

/- What the reference's Of of layer 7 answers, as a contract over memory. Conditions: sizes of at most so many limbs. -/
namespace Go.Proofs.YtjikaojffgjndaaGreatDoor
open Go.RowKit Limb
set_option linter.unusedVariables false
section
variable {w : World} {s s' : Bool} {A B A' B' : Option Addr} {n c m d n' c' m' d' : Nat} {xs ys xs' ys' : List Nat} {x y : Int} {a b L L' : Nat}
set_option maxHeartbeats 4000000 in
set_option maxRecDepth 100000 in
theorem refQOf_c (hx : ZZ w s A n c xs x L) (hy : NN w B m d ys b L') (h1 : L ≤ 10000) (h2 : L' ≤ 10000) (r : Option Rat) (e : Int) (hR : ofR x b = (r, e)) :
 Calls Tryz.prog 48 #[.agg #[.bool s, .slice A n c], .slice B m d] w fun ee w' => ∃ A2 n2 c2 B2 m2 d2, ee = .returned (.agg #[.bool (sg (oTop r)), .slice A2 n2 c2, .slice B2 m2 d2, .int .i64 e]) ∧ QT w' A2 n2 c2 B2 m2 d2 r ∧ Below w.heap.size w w' := by
 have b0 := below_new w (.cells #[Value.bool s, Value.slice A n c] 25)
 have b1 := below_new (w.alloc (.cells #[Value.bool s, Value.slice A n c] 25)) (.cells #[Value.bool false, Value.slice none 0 0, Value.slice none 0 0, Value.int IntKind.i64 0] 35)
 have HW := Lib.hid (below_two b0 b1)
 have HX := Lib.hid (hx.below HW.out)
 have HY := Lib.hid (hy.below HW.out)
 have r0 := (row2_new w 25 (.bool s) (.slice A n c)).below b1
 have rz := row4_new (w.alloc (.cells #[Value.bool s, Value.slice A n c] 25)) 35 (.bool false) (.slice none 0 0) (.slice none 0 0) (.int .i64 0)
 simp only [World.size_alloc] at rz
 have Hq : RowKit.Hid (w.heap.size ≤ w.heap.size + 1) := Nat.le_succ _
 clear b0 b1 hx hy
 by_cases hb : b = 0
 · obtain ⟨rfl, rfl⟩ := ofR_zero hb hR
   clear hR
   have HB0 : RowKit.Hid (((blen b : Nat) : Int) = 0) := by show _ = _; rw [hb]; rfl
   clear hb
   go_enter Tryz.func48, Tryz.ntmps48
   go_wp2_with fail
   generalize (w.alloc (.cells #[Value.bool s, Value.slice A n c] 25)).alloc (.cells #[Value.bool false, Value.slice none 0 0, Value.slice none 0 0, Value.int IntKind.i64 0] 35) = w1 at *
   have HR0 := Lib.hid r0
   have HZ := Lib.hid rz
   clear r0 rz
   refine (refBits_c HY.out (by omega) 0 HB0.out).mono ?_
   rintro e w2 ⟨rfl, rfl⟩
   have e0 := HZ.out.c0
   have e1 := HZ.out.c1
   have e2 := HZ.out.c2
   have e3 := HZ.out.c3
   have f0 := HZ.out.free 0
   have f1 := HZ.out.free 1
   have f2 := HZ.out.free 2
   have f3 := HZ.out.free 3
   have HF := Lib.hid (HZ.out.fill (.bool false) (.slice none 0 0) (.slice none 0 0) (.int .i64 3))
   have HB := Lib.hid (below_fill4 HW.out Hq.out (.bool false) (.slice none 0 0) (.slice none 0 0) (.int .i64 3))
   go_wp2
   refine bodyPost_ret (results_cell_row rfl _ _ _ 35 #[.bool false, .slice none 0 0, .slice none 0 0, .int .i64 3] (0, 0) _ rfl HF.out Tryz.underlying35 rfl got7_size) rfl ?_
   exact ⟨none, 0, 0, none, 0, 0, rfl, qt_none _ 0 0, HB.out⟩
 · have hL := ofR_yes hb hR
   clear hR
   obtain ⟨z, hz⟩ : ∃ z, mkRat x b = z := ⟨_, rfl⟩
   rw [hz] at hL
   have hL2 : (limQ z, limE z) = (r, e) := hL
   cases hL2
   clear hL
   have HM := Lib.hid hz
   have HB := Lib.hid hb
   obtain ⟨u, hu⟩ : ∃ u : Int, ((blen b : Nat) : Int) = u := ⟨_, rfl⟩
   have hu0 : (u == 0) = false := by
    rw [beq_eq_false_iff_ne, ← hu]
    have := mt blen_eq_zero.1 hb
    omega
   have HB0 := Lib.hid hu
   clear hz hb hu
   go_enter Tryz.func48, Tryz.ntmps48
   go_wp2_with fail
   generalize (w.alloc (.cells #[Value.bool s, Value.slice A n c] 25)).alloc (.cells #[Value.bool false, Value.slice none 0 0, Value.slice none 0 0, Value.int IntKind.i64 0] 35) = w1 at *
   have HR0 := Lib.hid r0
   have HZ := Lib.hid rz
   clear r0 rz
   refine (refBits_c HY.out (by omega) u HB0.out).mono ?_
   rintro e w2 ⟨rfl, rfl⟩
   have c00 := HR0.out.c0
   have c01 := HR0.out.c1
   go_wp2_with fail
   clear c00 c01
   refine (refWide_c HX.out HY.out (by omega) (by omega) HB.out z HM.out).mono ?_
   rintro ee w3 ⟨A8, n8, c8, B8, m8, d8, rfl, h7, h8, bn⟩
   have H7 := Lib.hid h7
   have H8 := Lib.hid h8
   replace HZ := Lib.hid (HZ.out.below bn)
   replace HW := Lib.hid (below_two HW.out bn)
   clear bn h7 h8
   go_wp2_with fail
   refine (refLimit_c H7.out H8.out).mono ?_
   rintro ee w4 ⟨A9, n9, c9, B9, m9, d9, rfl, h9, bn⟩
   have hZ3 := HZ.out.below bn
   have hNo := hZ3.noLimb (by intro v e; cases e) (by intro v e; cases e) (by intro v e; cases e) (by intro v e; cases e)
   have e0 := hZ3.c0
   have e1 := hZ3.c1
   have e2 := hZ3.c2
   have e3 := hZ3.c3
   have f0 := hZ3.free 0
   have f1 := hZ3.free 1
   have f2 := hZ3.free 2
   have f3 := hZ3.free 3
   have HF := Lib.hid (hZ3.fill (.bool (sg (oTop (limQ z)))) (.slice A9 n9 c9) (.slice B9 m9 d9) (.int .i64 (limE z)))
   have HP := Lib.hid (QQ.fillR4 h9 hNo (.bool (sg (oTop (limQ z)))) (.slice A9 n9 c9) (.slice B9 m9 d9) (.int .i64 (limE z)))
   have HB := Lib.hid (below_fill4 (below_two HW.out bn) Hq.out (.bool (sg (oTop (limQ z)))) (.slice A9 n9 c9) (.slice B9 m9 d9) (.int .i64 (limE z)))
   clear hNo bn h9 hZ3
   go_wp2
   refine bodyPost_ret (results_cell_row rfl _ _ _ 35 #[.bool (sg (oTop (limQ z))), .slice A9 n9 c9, .slice B9 m9 d9, .int .i64 (limE z)] (0, 0) _ rfl HF.out Tryz.underlying35 rfl got7_size) rfl ?_
   exact ⟨A9, n9, c9, B9, m9, d9, rfl, HP.out, HB.out⟩
end
end Go.Proofs.YtjikaojffgjndaaGreatDoor

/- What the reference of layer 10 answers (Parse), as a contract over memory: the number whose exact text a text is, or none. Condition: texts that can be read. -/
namespace Go.Proofs.YtjikaojffgjndaaGreatDoor
open Go.RowKit Limb
set_option linter.unusedVariables false
theorem cut_until : ∀ (l : List Nat) (k : Nat), k ≤ l.length → (∀ j, j < k → lim l j ≠ 47) → (k = l.length ∨ lim l k = 47) → cutA l = l.take k ∧ cutS l = l.drop k
 | [], k, h, _, _ => by
  obtain rfl : k = 0 := by simpa using h
  exact ⟨rfl, rfl⟩
 | x :: l, 0, _, _, h => by
  have hx : x = 47 := by
   rcases h with h | h
   · simp at h
   · exact h
  subst hx
  exact ⟨rfl, rfl⟩
 | x :: l, k + 1, h, hj, he => by
  have hx : x ≠ 47 := hj 0 (by omega)
  have h2 := cut_until l k (by simpa using h) (fun j hj2 => hj (j + 1) (by omega)) (by
   rcases he with he | he
   · left; simpa using he
   · right; exact he)
  have hb : (x != 47) = true := by rw [bne_iff_ne]; exact hx
  unfold cutA cutS at *
  rw [List.takeWhile_cons_of_pos (p := fun x => x != 47) hb, List.dropWhile_cons_of_pos (p := fun x => x != 47) hb, h2.1, h2.2]
  exact ⟨rfl, rfl⟩
theorem exR_bad {l : List Nat} (h : exOk l = false) : exR l = (Option.none, 12) := by unfold exR; rw [if_neg (by rw [h]; decide)]
theorem exR_none {l : List Nat} (h : exOk l = true) {e : Int} (ho : ofR (zV (cutA l)) (exB l) = (Option.none, e)) : exR l = (Option.none, 12) := by
 unfold exR; rw [if_pos h, ho]
theorem exR_ne {l : List Nat} (h : exOk l = true) {q : Rat} {e : Int} (ho : ofR (zV (cutA l)) (exB l) = (Option.some q, e)) (hq : exT q ≠ l) : exR l = (Option.none, 12) := by
 unfold exR; rw [if_pos h, ho]
 show (if exT q = l then (Option.some q, (0 : Int)) else (Option.none, 12)) = _
 rw [if_neg hq]
theorem exR_eq {l : List Nat} (h : exOk l = true) {q : Rat} {e : Int} (ho : ofR (zV (cutA l)) (exB l) = (Option.some q, e)) (hq : exT q = l) : exR l = (Option.some q, 0) := by
 unfold exR; rw [if_pos h, ho]
 show (if exT q = l then (Option.some q, (0 : Int)) else (Option.none, 12)) = _
 rw [if_pos hq]
theorem ofR_zeros {x : Int} {b : Nat} (hb : b ≠ 0) : (∃ q, ofR x b = (Option.some q, 0)) ∨ ofR x b = (Option.none, 2) := by
 have h : ofR x b = limR (mkRat x b) := by unfold ofR; rw [if_neg hb]
 rw [h]
 cases hf : fitsQ (mkRat x b) with
 | true => exact .inl ⟨_, limR_yes hf⟩
 | false => exact .inr (limR_no hf)
theorem same_text {q : Rat} {S s : ByteArray} (hS : strOf (exT q) = S) : (S.toList == s.toList) = decide (exT q = bytesOf s) := by
 have h := str_beq (exT_bytes q) (bytes_bytesOf s)
 rw [hS, strOf_bytesOf] at h
 exact h
theorem boxes3 (w : World) (T6 T5 : TypeId) (a b c : Value) :
 Row3 (((w.alloc (.cells #[a, b, c] T6)).alloc (.cells #[Value.int IntKind.u32 1] 74)).alloc (.cells #[.slice (Option.some ⟨w.heap.size + 1, 0, Option.none⟩) 1 1, .bool true] T5)) w.heap.size T6 a b c ∧
 Row2 (((w.alloc (.cells #[a, b, c] T6)).alloc (.cells #[Value.int IntKind.u32 1] 74)).alloc (.cells #[.slice (Option.some ⟨w.heap.size + 1, 0, Option.none⟩) 1 1, .bool true] T5)) (w.heap.size + 2) T5 (.slice (Option.some ⟨w.heap.size + 1, 0, Option.none⟩) 1 1) (.bool true) ∧
 NN (((w.alloc (.cells #[a, b, c] T6)).alloc (.cells #[Value.int IntKind.u32 1] 74)).alloc (.cells #[.slice (Option.some ⟨w.heap.size + 1, 0, Option.none⟩) 1 1, .bool true] T5)) (Option.some ⟨w.heap.size + 1, 0, Option.none⟩) 1 1 (limbs 1) 1 1 ∧
 Below w.heap.size w (((w.alloc (.cells #[a, b, c] T6)).alloc (.cells #[Value.int IntKind.u32 1] 74)).alloc (.cells #[.slice (Option.some ⟨w.heap.size + 1, 0, Option.none⟩) 1 1, .bool true] T5)) := by
 have b1 := below_new w (.cells #[a, b, c] T6)
 have b2 := below_new (w.alloc (.cells #[a, b, c] T6)) (.cells #[Value.int IntKind.u32 1] 74)
 have b3 := below_new ((w.alloc (.cells #[a, b, c] T6)).alloc (.cells #[Value.int IntKind.u32 1] 74)) (.cells #[.slice (Option.some ⟨w.heap.size + 1, 0, Option.none⟩) 1 1, .bool true] T5)
 have l := lit_c (w.alloc (.cells #[a, b, c] T6)) [1] (by intro x hx; simp at hx; omega) 1 rfl
 have l2 : NN ((w.alloc (.cells #[a, b, c] T6)).alloc (.cells #[Value.int IntKind.u32 1] 74)) (Option.some ⟨w.heap.size + 1, 0, Option.none⟩) 1 1 (limbs 1) 1 1 := by
  rw [World.size_alloc] at l
  rw [one_lit]; exact l
 refine ⟨((row3_new w T6 a b c).below b2).below b3, ?_, l2.below b3, below_two (below_two b1 b2) b3⟩
 have r := row2_new ((w.alloc (.cells #[a, b, c] T6)).alloc (.cells #[Value.int IntKind.u32 1] 74)) T5 (.slice (Option.some ⟨w.heap.size + 1, 0, Option.none⟩) 1 1) (.bool true)
 rw [World.size_alloc, World.size_alloc] at r
 exact r
theorem row2_noLimb {w : World} {g : Nat} {T : TypeId} {a b : Value} (h : Row2 w g T a b) (ha : ∀ v, a ≠ .int .u32 v) (hb : ∀ v, b ≠ .int .u32 v) : NoLimb w g := by
 intro o v e
 unfold Row2 at h
 match o, e with
 | 0, e => rw [show w.cell? ⟨g, 0, Option.none⟩ = some a by simp [World.cell?, h]] at e; exact ha v (Option.some.inj e)
 | 1, e => rw [show w.cell? ⟨g, 1, Option.none⟩ = some b by simp [World.cell?, h]] at e; exact hb v (Option.some.inj e)
 | o + 2, e => simp [World.cell?, h] at e
set_option maxHeartbeats 2000000 in
set_option maxRecDepth 100000 in
theorem refDParse_c (s : ByteArray) (hs : s.size ≤ 9223372036854775806) (w : World) (r : Option Rat) (e : Int) (hR : exR (bytesOf s) = (r, e)) :
 Calls Tryz.prog 13 #[.string s] w fun ee w' => ∃ A2 n2 c2 B2 m2 d2, ee = .returned (.agg #[.bool (sg (oTop r)), .slice A2 n2 c2, .slice B2 m2 d2, .int .i64 e]) ∧ QT w' A2 n2 c2 B2 m2 d2 r ∧ Below w.heap.size w w' := by
 have hl := length_bytesOf s
 have HL := Lib.hid hl
 have b0 := below_new w (.cells #[Value.bool false, Value.slice none 0 0, Value.slice none 0 0, Value.int IntKind.i64 0] 35)
 have HW := Lib.hid b0
 have rz := row4_new w 35 (.bool false) (.slice none 0 0) (.slice none 0 0) (.int .i64 0)
 have Hq : RowKit.Hid (w.heap.size ≤ w.heap.size) := Nat.le_refl _
 have HR := Lib.hid hR
 clear hl b0 hR
 go_enter Tryz.func13, Tryz.ntmps13
 go_wp2
 generalize w.alloc (.cells #[Value.bool false, Value.slice none 0 0, Value.slice none 0 0, Value.int IntKind.i64 0] 35) = w1 at *
 have HZ := Lib.hid rz
 clear rz
 go_loopw [3, 4] (fun av iv wr => ∃ k : Nat, k ≤ s.size ∧ av = .int .i64 (s.size : Int) ∧ iv = .int .i64 (k : Int) ∧ RowKit.Hid (∀ j, j < k → lim (bytesOf s) j ≠ 47) ∧ w1 = wr) (fun _ iv _ => s.size - (intOf iv).toNat)
 case atStart => exact ⟨0, Nat.zero_le _, rfl, rfl, (fun j hj => absurd hj (Nat.not_lt_zero _)), rfl⟩
 case round =>
  obtain ⟨k, hk, rfl, rfl, HK, rfl⟩ := hrel
  by_cases hlt : k < s.size
  · obtain ⟨d, hd_d⟩ : ∃ d, (s[k]'hlt).toNat = d := ⟨_, rfl⟩
    have L_d : RowKit.Hid (lim (bytesOf s) k = d) := by show _ = _; rw [← Limb.byte_at s k hlt, hd_d]
    by_cases g : d = 47
    · have e_d : ((d : Int) == 47) = true := by rw [beq_iff_eq]; omega
      obtain ⟨hcA, hcS⟩ := cut_until (bytesOf s) k (by rw [HL.out]; omega) HK.out (.inr (L_d.out.trans g))
      obtain ⟨SA, hSA⟩ : ∃ SA, s.extract 0 k = SA := ⟨_, rfl⟩
      have hbA : bytesOf SA = cutA (bytesOf s) := by rw [← hSA, bytes_cut, hcA, List.drop_zero, Nat.sub_zero]
      obtain ⟨SB, hSB⟩ : ∃ SB, s.extract (k + 1) s.size = SB := ⟨_, rfl⟩
      have hbB : bytesOf SB = (cutS (bytesOf s)).drop 1 := by
       rw [← hSB, bytes_cut, hcS, List.drop_drop]
       exact List.take_of_length_le (by rw [List.length_drop, HL.out]; omega)
      have hS0 : cutS (bytesOf s) ≠ [] := by
       rw [hcS]; intro h
       have h2 := congrArg List.length h
       rw [List.length_drop, HL.out] at h2; simp at h2; omega
      obtain ⟨v1, hv1⟩ : ∃ v, zOk (bytesOf SA) = v := ⟨_, rfl⟩
      obtain ⟨z, hz⟩ : ∃ z, zV (bytesOf SA) = z := ⟨_, rfl⟩
      have HC := Lib.hid (fun W => refIParse_c SA W v1 hv1 z hz)
      rw [hbA] at hv1 hz
      have hzz := hz
      have Hzz := Lib.hid hzz
      obtain ⟨v2, hv2⟩ : ∃ v, numOk (bytesOf SB) = v := ⟨_, rfl⟩
      obtain ⟨m, hm⟩ : ∃ m, numV (bytesOf SB) = m := ⟨_, rfl⟩
      have HD := Lib.hid (fun W => refParse_v SB W v2 hv2 m hm)
      rw [hbB] at hv2 hm
      have hok0 : exOk (bytesOf s) = (v1 && (v2 && decide (m ≠ 0))) := by unfold exOk; rw [hv1, hv2, hm, decide_eq_false hS0, Bool.false_or]
      have hbb : exB (bytesOf s) = m := by unfold exB; rw [if_neg hS0]; exact hm
      have Hbb := Lib.hid hbb
      have Hok0 := Lib.hid hok0
      clear hv2 hm hbB hbb hok0
      have u1 : (0 : Int) ≤ (k : Int) + 1 := by omega
      have u2 : (k : Int) + 1 ≤ (s.size : Int) := by omega
      have u3 : (k : Int) ≤ (s.size : Int) := by omega
      have u4 : (k : Int) < (s.size : Int) := by omega
      clear hz hzz hcA hcS hbA HK hv1 hS0 L_d
      go_wp2_with fail
      refine (HC.out _).mono ?_
      rintro e w2 ⟨A2, n2, c2, rfl, h2, bn⟩
      replace HZ := Lib.hid (HZ.out.below bn)
      replace HW := Lib.hid (below_two HW.out bn)
      clear bn HC
      have HGG : RowKit.Hid (w.heap.size ≤ w2.heap.size) := HW.out.size
      have HGL : RowKit.Hid (w.heap.size < w2.heap.size) := HZ.out.lt
      obtain ⟨r3, r5, l5, b5⟩ := boxes3 w2 72 76 (.bool (sg z)) (.slice A2 n2 c2) (.bool v1)
      have H2 := Lib.hid (h2.below b5)
      have HR3 := Lib.hid r3
      have HR2 := Lib.hid r5
      have HN1 := Lib.hid l5
      replace HZ := Lib.hid (HZ.out.below b5)
      replace HW := Lib.hid (below_two HW.out b5)
      clear b5 h2 r3 r5 l5
      go_wp2_with fail
      generalize ((w2.alloc (.cells #[Value.bool (sg z), Value.slice A2 n2 c2, Value.bool v1] 72)).alloc (.cells #[Value.int IntKind.u32 1] 74)).alloc (.cells #[Value.slice (some ⟨w2.heap.size + 1, 0, none⟩) 1 1, Value.bool true] 76) = w5 at *
      generalize w2.heap.size = g2 at *
      refine (HD.out _).mono ?_
      rintro e w9 ⟨A4, n4, c4, rfl, h4, bn⟩
      replace HZ := Lib.hid (HZ.out.below bn)
      replace H2 := Lib.hid (H2.out.below bn)
      replace HR3 := Lib.hid (HR3.out.below bn)
      replace HR2 := Lib.hid (HR2.out.below bn)
      replace HW := Lib.hid (below_two HW.out bn)
      clear bn HD HN1
      have hn2 := HR2.out
      have b20 := hn2.c0
      have b21 := hn2.c1
      have y20 := hn2.free 0
      have y21 := hn2.free 1
      have hno : NoLimb w9 (g2 + 2) := row2_noLimb hn2 (by intro v e; cases e) (by intro v e; cases e)
      have hne : g2 + 2 ≠ g2 := by omega
      have H4 := Lib.hid ((h4.elsewhere (apart_of h4 hno) 0 (.slice A4 n4 c4)).elsewhere (apart_of h4 hno) 1 (.bool v2))
      have H2n := Lib.hid ((H2.out.nn.elsewhere (apart_of H2.out.nn hno) 0 (.slice A4 n4 c4)).elsewhere (apart_of H2.out.nn hno) 1 (.bool v2))
      have H2s := Lib.hid H2.out.sgn
      replace H2 : RowKit.Hid (ZZ ((w9.setCell ⟨g2 + 2, 0, none⟩ (.slice A4 n4 c4)).setCell ⟨g2 + 2, 1, none⟩ (.bool v2)) (sg z) A2 n2 c2 (limbs z.natAbs) z 223) := ⟨H2n.out, H2s.out⟩
      have HR3b := Lib.hid ((HR3.out.set hne 0 (.slice A4 n4 c4)).set hne 1 (.bool v2))
      have HR2b := Lib.hid (hn2.filled (.slice A4 n4 c4) (.bool v2))
      have HG2 : RowKit.Hid (w.heap.size ≤ g2 + 2) := by show _ ≤ _; have := HGG.out; omega
      have hB := below_fill HW.out HG2.out (.slice A4 n4 c4) (.bool v2)
      have HZb := Lib.hid ((HZ.out.set (show g2 + 2 ≠ w.heap.size by have := HGL.out; omega) 0 (.slice A4 n4 c4)).set (show g2 + 2 ≠ w.heap.size by have := HGL.out; omega) 1 (.bool v2))
      have hn4 : n4 = 0 ↔ m = 0 := by rw [← h4.isN.len]; exact len_limbs_zero
      replace HZ := HZb
      replace HW := Lib.hid hB
      have c30 := HR3b.out.c0
      have c31 := HR3b.out.c1
      have c32 := HR3b.out.c2
      have c20 := HR2b.out.c0
      have c21 := HR2b.out.c1
      clear hn2 hno hne h4 H2n H2s hB HZb HR3 HR2
      cases v1 with
      | false =>
       clear hn4
       have hR2 := exR_bad (l := bytesOf s) (Hok0.out.trans (rfl))
       rw [HR.out] at hR2
       cases hR2
       clear HR
       clear Hok0 Hbb Hzz
       have e0 := HZ.out.c0
       have e1 := HZ.out.c1
       have e2 := HZ.out.c2
       have e3 := HZ.out.c3
       have f0 := HZ.out.free 0
       have f1 := HZ.out.free 1
       have f2 := HZ.out.free 2
       have f3 := HZ.out.free 3
       have HF := Lib.hid (HZ.out.fill (.bool false) (.slice none 0 0) (.slice none 0 0) (.int .i64 12))
       have HB := Lib.hid (below_fill4 HW.out Hq.out (.bool false) (.slice none 0 0) (.slice none 0 0) (.int .i64 12))
       go_wp2
       refine bodyPost_ret (results_cell_row rfl _ _ _ 35 #[.bool false, .slice none 0 0, .slice none 0 0, .int .i64 12] (0, 0) _ rfl HF.out Tryz.underlying35 rfl got7_size) rfl ?_
       exact ⟨none, 0, 0, none, 0, 0, rfl, qt_none _ 0 0, HB.out⟩
      | true =>
       cases v2 with
       | false =>
        clear hn4
        have hR2 := exR_bad (l := bytesOf s) (Hok0.out.trans (rfl))
        rw [HR.out] at hR2
        cases hR2
        clear HR
        clear Hok0 Hbb Hzz
        have e0 := HZ.out.c0
        have e1 := HZ.out.c1
        have e2 := HZ.out.c2
        have e3 := HZ.out.c3
        have f0 := HZ.out.free 0
        have f1 := HZ.out.free 1
        have f2 := HZ.out.free 2
        have f3 := HZ.out.free 3
        have HF := Lib.hid (HZ.out.fill (.bool false) (.slice none 0 0) (.slice none 0 0) (.int .i64 12))
        have HB := Lib.hid (below_fill4 HW.out Hq.out (.bool false) (.slice none 0 0) (.slice none 0 0) (.int .i64 12))
        go_wp2
        refine bodyPost_ret (results_cell_row rfl _ _ _ 35 #[.bool false, .slice none 0 0, .slice none 0 0, .int .i64 12] (0, 0) _ rfl HF.out Tryz.underlying35 rfl got7_size) rfl ?_
        exact ⟨none, 0, 0, none, 0, 0, rfl, qt_none _ 0 0, HB.out⟩
       | true =>
        by_cases m0 : m = 0
        · have n0 : n4 = 0 := hn4.2 m0
          subst n0
          subst m0
          clear hn4
          have hR2 := exR_bad (l := bytesOf s) (Hok0.out.trans (rfl))
          rw [HR.out] at hR2
          cases hR2
          clear HR
          clear Hok0 Hbb Hzz
          have e0 := HZ.out.c0
          have e1 := HZ.out.c1
          have e2 := HZ.out.c2
          have e3 := HZ.out.c3
          have f0 := HZ.out.free 0
          have f1 := HZ.out.free 1
          have f2 := HZ.out.free 2
          have f3 := HZ.out.free 3
          have HF := Lib.hid (HZ.out.fill (.bool false) (.slice none 0 0) (.slice none 0 0) (.int .i64 12))
          have HB := Lib.hid (below_fill4 HW.out Hq.out (.bool false) (.slice none 0 0) (.slice none 0 0) (.int .i64 12))
          go_wp2
          refine bodyPost_ret (results_cell_row rfl _ _ _ 35 #[.bool false, .slice none 0 0, .slice none 0 0, .int .i64 12] (0, 0) _ rfl HF.out Tryz.underlying35 rfl got7_size) rfl ?_
          exact ⟨none, 0, 0, none, 0, 0, rfl, qt_none _ 0 0, HB.out⟩
        · have n0 : ((n4 : Int) == 0) = false := by
           rw [beq_eq_false_iff_ne]
           have := mt hn4.1 m0
           omega
          have hok : exOk (bytesOf s) = true := by rw [Hok0.out, decide_eq_true m0]; rfl
          have hzz := Hzz.out
          have hbb := Hbb.out
          have hb0 := m0
          clear Hok0 Hbb Hzz hn4 m0
          obtain ⟨rr, ee, hO⟩ : ∃ r e, ofR (zV (cutA (bytesOf s))) (exB (bytesOf s)) = (r, e) := ⟨_, _, rfl⟩
          have hO2 := hO
          rw [hzz, hbb] at hO2
          have HO2 := Lib.hid hO2
          have hcase := ofR_zeros (x := zV (cutA (bytesOf s))) (b := exB (bytesOf s)) (by rw [hbb]; exact hb0)
          rw [hO] at hcase
          have HCase := Lib.hid hcase
          have HO := Lib.hid hO
          have HOK := Lib.hid hok
          clear hO2 hcase hO hok hzz hbb hb0
          go_wp2_with fail
          clear c30 c31 c32 c20 c21 b20 b21 y20 y21
          refine (refQOf_c H2.out H4.out (by decide) (by decide) rr ee HO2.out).mono ?_
          rintro e w6 ⟨A6, n6, c6, B6, m6, d6, rfl, h6, bn⟩
          replace HZ := Lib.hid (HZ.out.below bn)
          replace HW := Lib.hid (below_two HW.out bn)
          clear bn HO2
          have b7 := below_new w6 (.cells #[Value.bool (sg (oTop rr)), Value.slice A6 n6 c6, Value.slice B6 m6 d6, Value.int IntKind.i64 ee] 35)
          have HG := Lib.hid (row4_new w6 35 (.bool (sg (oTop rr))) (.slice A6 n6 c6) (.slice B6 m6 d6) (.int .i64 ee))
          have H6 := Lib.hid (h6.below b7)
          replace HZ := Lib.hid (HZ.out.below b7)
          replace HW := Lib.hid (below_two HW.out b7)
          clear b7 h6
          rcases HCase.out with ⟨q, hq⟩ | hq
          · cases hq
            have g3 := HG.out.c3
            have g0 := HG.out.c0
            have g1 := HG.out.c1
            have g2 := HG.out.c2
            obtain ⟨S, hS⟩ : ∃ S, strOf (exO (Option.some q)) = S := ⟨_, rfl⟩
            have HS := Lib.hid hS
            have HSM := Lib.hid (same_text (s := s) (show strOf (exT q) = S from hS))
            clear hS HCase
            go_wp2_with fail
            clear g0 g1 g2 g3
            generalize w6.alloc (.cells #[Value.bool (sg (oTop (Option.some q))), Value.slice A6 n6 c6, Value.slice B6 m6 d6, Value.int IntKind.i64 0] 35) = w7 at *
            generalize w6.heap.size = g6 at *
            refine (refDExact_c H6.out (by decide) S HS.out).mono ?_
            rintro e w8 ⟨rfl, bn⟩
            replace HZ := Lib.hid (HZ.out.below bn)
            replace HG := Lib.hid (HG.out.below bn)
            replace H6 := Lib.hid (H6.out.below bn)
            replace HW := Lib.hid (below_two HW.out bn)
            clear bn
            have hsm := HSM.out
            clear HSM
            by_cases hT : exT q = bytesOf s
            · rw [decide_eq_true hT] at hsm
              have hR2 := exR_eq HOK.out HO.out hT
              rw [HR.out] at hR2
              cases hR2
              clear HR
              clear HOK HO hT HS
              have g0 := HG.out.c0
              have g1 := HG.out.c1
              have g2 := HG.out.c2
              have g3 := HG.out.c3
              have hNo := HZ.out.noLimb (by intro v e; cases e) (by intro v e; cases e) (by intro v e; cases e) (by intro v e; cases e)
              have e0 := HZ.out.c0
              have e1 := HZ.out.c1
              have e2 := HZ.out.c2
              have e3 := HZ.out.c3
              have f0 := HZ.out.free 0
              have f1 := HZ.out.free 1
              have f2 := HZ.out.free 2
              have f3 := HZ.out.free 3
              have HF := Lib.hid (HZ.out.fill (.bool (sg (oTop (Option.some q)))) (.slice A6 n6 c6) (.slice B6 m6 d6) (.int .i64 0))
              have HP := Lib.hid (QQ.fillR4 H6.out hNo (.bool (sg (oTop (Option.some q)))) (.slice A6 n6 c6) (.slice B6 m6 d6) (.int .i64 0))
              have HB := Lib.hid (below_fill4 HW.out Hq.out (.bool (sg (oTop (Option.some q)))) (.slice A6 n6 c6) (.slice B6 m6 d6) (.int .i64 0))
              clear hNo
              go_wp2
              refine bodyPost_ret (results_cell_row rfl _ _ _ 35 #[.bool (sg (oTop (Option.some q))), .slice A6 n6 c6, .slice B6 m6 d6, .int .i64 0] (0, 0) _ rfl HF.out Tryz.underlying35 rfl got7_size) rfl ?_
              exact ⟨A6, n6, c6, B6, m6, d6, rfl, HP.out, HB.out⟩
            · rw [decide_eq_false hT] at hsm
              have hR2 := exR_ne HOK.out HO.out hT
              rw [HR.out] at hR2
              cases hR2
              clear HR
              clear HOK HO hT HS
              have e0 := HZ.out.c0
              have e1 := HZ.out.c1
              have e2 := HZ.out.c2
              have e3 := HZ.out.c3
              have f0 := HZ.out.free 0
              have f1 := HZ.out.free 1
              have f2 := HZ.out.free 2
              have f3 := HZ.out.free 3
              have HF := Lib.hid (HZ.out.fill (.bool false) (.slice none 0 0) (.slice none 0 0) (.int .i64 12))
              have HB := Lib.hid (below_fill4 HW.out Hq.out (.bool false) (.slice none 0 0) (.slice none 0 0) (.int .i64 12))
              go_wp2
              refine bodyPost_ret (results_cell_row rfl _ _ _ 35 #[.bool false, .slice none 0 0, .slice none 0 0, .int .i64 12] (0, 0) _ rfl HF.out Tryz.underlying35 rfl got7_size) rfl ?_
              exact ⟨none, 0, 0, none, 0, 0, rfl, qt_none _ 0 0, HB.out⟩
          · cases hq
            have hR2 := exR_none HOK.out HO.out
            rw [HR.out] at hR2
            cases hR2
            clear HR
            clear HOK HO HCase
            have g3 := HG.out.c3
            have e0 := HZ.out.c0
            have e1 := HZ.out.c1
            have e2 := HZ.out.c2
            have e3 := HZ.out.c3
            have f0 := HZ.out.free 0
            have f1 := HZ.out.free 1
            have f2 := HZ.out.free 2
            have f3 := HZ.out.free 3
            have HF := Lib.hid (HZ.out.fill (.bool false) (.slice none 0 0) (.slice none 0 0) (.int .i64 12))
            have HB := Lib.hid (below_fill4 HW.out Hq.out (.bool false) (.slice none 0 0) (.slice none 0 0) (.int .i64 12))
            go_wp2
            refine bodyPost_ret (results_cell_row rfl _ _ _ 35 #[.bool false, .slice none 0 0, .slice none 0 0, .int .i64 12] (0, 0) _ rfl HF.out Tryz.underlying35 rfl got7_size) rfl ?_
            exact ⟨none, 0, 0, none, 0, 0, rfl, qt_none _ 0 0, HB.out⟩
    · have e_d : ((d : Int) == 47) = false := by rw [beq_eq_false_iff_ne]; omega
      have HK2 : RowKit.Hid (∀ j, j < k + 1 → lim (bytesOf s) j ≠ 47) := by
       intro j hj h
       rcases Nat.lt_or_eq_of_le (Nat.le_of_lt_succ hj) with h2 | h2
       · exact HK.out j h2 h
       · rw [h2, L_d.out] at h; exact g h
      clear L_d
      go_wp2
      go_roundw
      case rel => exact ⟨k + 1, by omega, rfl, by go_num, HK2, by first | rfl | trivial⟩
      case measure => simp [intOf]; omega
  · obtain rfl : k = s.size := by omega
    obtain ⟨hcA, hcS⟩ := cut_until (bytesOf s) s.size (by rw [HL.out]; omega) HK.out (.inl HL.out.symm)
    obtain ⟨SA, hSA⟩ : ∃ SA, s.extract 0 s.size = SA := ⟨_, rfl⟩
    have hbA : bytesOf SA = cutA (bytesOf s) := by rw [← hSA, bytes_cut, hcA, List.drop_zero, Nat.sub_zero]
    have hS0 : cutS (bytesOf s) = [] := by rw [hcS]; exact List.drop_eq_nil_of_le (by rw [HL.out]; exact Nat.le_refl _)
    obtain ⟨v1, hv1⟩ : ∃ v, zOk (bytesOf SA) = v := ⟨_, rfl⟩
    obtain ⟨z, hz⟩ : ∃ z, zV (bytesOf SA) = z := ⟨_, rfl⟩
    have HC := Lib.hid (fun W => refIParse_c SA W v1 hv1 z hz)
    rw [hbA] at hv1 hz
    have hzz := hz
    have Hzz := Lib.hid hzz
    have hbb : exB (bytesOf s) = 1 := by unfold exB; rw [if_pos hS0]
    have hok0 : exOk (bytesOf s) = v1 := by unfold exOk; rw [hv1, decide_eq_true hS0]; simp
    have Hbb := Lib.hid hbb
    have Hok0 := Lib.hid hok0
    clear hbb hok0
    clear hz hzz hcA hcS hbA HK hv1 hS0
    go_wp2_with fail
    refine (HC.out _).mono ?_
    rintro e w2 ⟨A2, n2, c2, rfl, h2, bn⟩
    replace HZ := Lib.hid (HZ.out.below bn)
    replace HW := Lib.hid (below_two HW.out bn)
    clear bn HC
    have HGG : RowKit.Hid (w.heap.size ≤ w2.heap.size) := HW.out.size
    have HGL : RowKit.Hid (w.heap.size < w2.heap.size) := HZ.out.lt
    obtain ⟨r3, r5, l5, b5⟩ := boxes3 w2 72 76 (.bool (sg z)) (.slice A2 n2 c2) (.bool v1)
    have H2 := Lib.hid (h2.below b5)
    have HR3 := Lib.hid r3
    have HR2 := Lib.hid r5
    have HN1 := Lib.hid l5
    replace HZ := Lib.hid (HZ.out.below b5)
    replace HW := Lib.hid (below_two HW.out b5)
    clear b5 h2 r3 r5 l5
    have c30 := HR3.out.c0
    have c31 := HR3.out.c1
    have c32 := HR3.out.c2
    have c20 := HR2.out.c0
    have c21 := HR2.out.c1
    cases v1 with
    | false =>
     have hR2 := exR_bad (l := bytesOf s) Hok0.out
     rw [HR.out] at hR2
     cases hR2
     clear HR
     clear Hok0 Hbb Hzz
     have e0 := HZ.out.c0
     have e1 := HZ.out.c1
     have e2 := HZ.out.c2
     have e3 := HZ.out.c3
     have f0 := HZ.out.free 0
     have f1 := HZ.out.free 1
     have f2 := HZ.out.free 2
     have f3 := HZ.out.free 3
     have HF := Lib.hid (HZ.out.fill (.bool false) (.slice none 0 0) (.slice none 0 0) (.int .i64 12))
     have HB := Lib.hid (below_fill4 HW.out Hq.out (.bool false) (.slice none 0 0) (.slice none 0 0) (.int .i64 12))
     go_wp2
     refine bodyPost_ret (results_cell_row rfl _ _ _ 35 #[.bool false, .slice none 0 0, .slice none 0 0, .int .i64 12] (0, 0) _ rfl HF.out Tryz.underlying35 rfl got7_size) rfl ?_
     exact ⟨none, 0, 0, none, 0, 0, rfl, qt_none _ 0 0, HB.out⟩
    | true =>
     have hok := Hok0.out
     have hzz := Hzz.out
     have hbb := Hbb.out
     have hb0 : (1 : Nat) ≠ 0 := by decide
     clear Hok0 Hbb Hzz
     obtain ⟨rr, ee, hO⟩ : ∃ r e, ofR (zV (cutA (bytesOf s))) (exB (bytesOf s)) = (r, e) := ⟨_, _, rfl⟩
     have hO2 := hO
     rw [hzz, hbb] at hO2
     have HO2 := Lib.hid hO2
     have hcase := ofR_zeros (x := zV (cutA (bytesOf s))) (b := exB (bytesOf s)) (by rw [hbb]; exact hb0)
     rw [hO] at hcase
     have HCase := Lib.hid hcase
     have HO := Lib.hid hO
     have HOK := Lib.hid hok
     clear hO2 hcase hO hok hzz hbb hb0
     go_wp2_with fail
     clear c30 c31 c32 c20 c21
     refine (refQOf_c H2.out HN1.out (by decide) (by decide) rr ee HO2.out).mono ?_
     rintro e w6 ⟨A6, n6, c6, B6, m6, d6, rfl, h6, bn⟩
     replace HZ := Lib.hid (HZ.out.below bn)
     replace HW := Lib.hid (below_two HW.out bn)
     clear bn HO2
     have b7 := below_new w6 (.cells #[Value.bool (sg (oTop rr)), Value.slice A6 n6 c6, Value.slice B6 m6 d6, Value.int IntKind.i64 ee] 35)
     have HG := Lib.hid (row4_new w6 35 (.bool (sg (oTop rr))) (.slice A6 n6 c6) (.slice B6 m6 d6) (.int .i64 ee))
     have H6 := Lib.hid (h6.below b7)
     replace HZ := Lib.hid (HZ.out.below b7)
     replace HW := Lib.hid (below_two HW.out b7)
     clear b7 h6
     rcases HCase.out with ⟨q, hq⟩ | hq
     · cases hq
       have g3 := HG.out.c3
       have g0 := HG.out.c0
       have g1 := HG.out.c1
       have g2 := HG.out.c2
       obtain ⟨S, hS⟩ : ∃ S, strOf (exO (Option.some q)) = S := ⟨_, rfl⟩
       have HS := Lib.hid hS
       have HSM := Lib.hid (same_text (s := s) (show strOf (exT q) = S from hS))
       clear hS HCase
       go_wp2_with fail
       clear g0 g1 g2 g3
       generalize w6.alloc (.cells #[Value.bool (sg (oTop (Option.some q))), Value.slice A6 n6 c6, Value.slice B6 m6 d6, Value.int IntKind.i64 0] 35) = w7 at *
       generalize w6.heap.size = g6 at *
       refine (refDExact_c H6.out (by decide) S HS.out).mono ?_
       rintro e w8 ⟨rfl, bn⟩
       replace HZ := Lib.hid (HZ.out.below bn)
       replace HG := Lib.hid (HG.out.below bn)
       replace H6 := Lib.hid (H6.out.below bn)
       replace HW := Lib.hid (below_two HW.out bn)
       clear bn
       have hsm := HSM.out
       clear HSM
       by_cases hT : exT q = bytesOf s
       · rw [decide_eq_true hT] at hsm
         have hR2 := exR_eq HOK.out HO.out hT
         rw [HR.out] at hR2
         cases hR2
         clear HR
         clear HOK HO hT HS
         have g0 := HG.out.c0
         have g1 := HG.out.c1
         have g2 := HG.out.c2
         have g3 := HG.out.c3
         have hNo := HZ.out.noLimb (by intro v e; cases e) (by intro v e; cases e) (by intro v e; cases e) (by intro v e; cases e)
         have e0 := HZ.out.c0
         have e1 := HZ.out.c1
         have e2 := HZ.out.c2
         have e3 := HZ.out.c3
         have f0 := HZ.out.free 0
         have f1 := HZ.out.free 1
         have f2 := HZ.out.free 2
         have f3 := HZ.out.free 3
         have HF := Lib.hid (HZ.out.fill (.bool (sg (oTop (Option.some q)))) (.slice A6 n6 c6) (.slice B6 m6 d6) (.int .i64 0))
         have HP := Lib.hid (QQ.fillR4 H6.out hNo (.bool (sg (oTop (Option.some q)))) (.slice A6 n6 c6) (.slice B6 m6 d6) (.int .i64 0))
         have HB := Lib.hid (below_fill4 HW.out Hq.out (.bool (sg (oTop (Option.some q)))) (.slice A6 n6 c6) (.slice B6 m6 d6) (.int .i64 0))
         clear hNo
         go_wp2
         refine bodyPost_ret (results_cell_row rfl _ _ _ 35 #[.bool (sg (oTop (Option.some q))), .slice A6 n6 c6, .slice B6 m6 d6, .int .i64 0] (0, 0) _ rfl HF.out Tryz.underlying35 rfl got7_size) rfl ?_
         exact ⟨A6, n6, c6, B6, m6, d6, rfl, HP.out, HB.out⟩
       · rw [decide_eq_false hT] at hsm
         have hR2 := exR_ne HOK.out HO.out hT
         rw [HR.out] at hR2
         cases hR2
         clear HR
         clear HOK HO hT HS
         have e0 := HZ.out.c0
         have e1 := HZ.out.c1
         have e2 := HZ.out.c2
         have e3 := HZ.out.c3
         have f0 := HZ.out.free 0
         have f1 := HZ.out.free 1
         have f2 := HZ.out.free 2
         have f3 := HZ.out.free 3
         have HF := Lib.hid (HZ.out.fill (.bool false) (.slice none 0 0) (.slice none 0 0) (.int .i64 12))
         have HB := Lib.hid (below_fill4 HW.out Hq.out (.bool false) (.slice none 0 0) (.slice none 0 0) (.int .i64 12))
         go_wp2
         refine bodyPost_ret (results_cell_row rfl _ _ _ 35 #[.bool false, .slice none 0 0, .slice none 0 0, .int .i64 12] (0, 0) _ rfl HF.out Tryz.underlying35 rfl got7_size) rfl ?_
         exact ⟨none, 0, 0, none, 0, 0, rfl, qt_none _ 0 0, HB.out⟩
     · cases hq
       have hR2 := exR_none HOK.out HO.out
       rw [HR.out] at hR2
       cases hR2
       clear HR
       clear HOK HO HCase
       have g3 := HG.out.c3
       have e0 := HZ.out.c0
       have e1 := HZ.out.c1
       have e2 := HZ.out.c2
       have e3 := HZ.out.c3
       have f0 := HZ.out.free 0
       have f1 := HZ.out.free 1
       have f2 := HZ.out.free 2
       have f3 := HZ.out.free 3
       have HF := Lib.hid (HZ.out.fill (.bool false) (.slice none 0 0) (.slice none 0 0) (.int .i64 12))
       have HB := Lib.hid (below_fill4 HW.out Hq.out (.bool false) (.slice none 0 0) (.slice none 0 0) (.int .i64 12))
       go_wp2
       refine bodyPost_ret (results_cell_row rfl _ _ _ 35 #[.bool false, .slice none 0 0, .slice none 0 0, .int .i64 12] (0, 0) _ rfl HF.out Tryz.underlying35 rfl got7_size) rfl ?_
       exact ⟨none, 0, 0, none, 0, 0, rfl, qt_none _ 0 0, HB.out⟩
end Go.Proofs.YtjikaojffgjndaaGreatDoor

/- Of any rational number, any number of places and any text: what package decimal tells is what the document tells. Condition: the listed tables. -/
namespace Go.Proofs.YtjikaojffgjndaaGreatDoor.lawDecimalTells
open Go.ChangeShapes Go.WideShapes Go.ChangeAt Go.RowKit Limb
set_option linter.unusedVariables false
set_option maxHeartbeats 8000000 in
set_option maxRecDepth 100000 in
theorem walk (g_a : Bool) (A_a : Option Addr) (n_a c_a : Nat) (xs_a : List Nat) (B_a : Option Addr) (m_a d_a : Nat) (ys_a : List Nat) (v_p : Int) (s_s : ByteArray) (w : World) (i_a : IsN w A_a n_a xs_a) (hc_a : n_a ≤ c_a) (hm_a : c_a ≤ maxLen) (j_a : IsN w B_a m_a ys_a) (kc_a : m_a ≤ d_a) (km_a : d_a ≤ maxLen) (f_p : (Lit.int .i64 v_p).wf = true) (z_s : s_s.size ≤ maxLen) (T : Tab w) :
 Calls Tryz.prog 3 #[.agg #[.bool g_a, .slice A_a n_a c_a, .slice B_a m_a d_a], .int .i64 v_p, .string s_s] w fun e w' => e = .returned (.bool true) ∧ Below w.heap.size w w' := by
 have HTab := Lib.hid T
 clear T
 have hm : maxLen = 9223372036854775807 := by decide
 have hs9 : s_s.size ≤ 9223372036854775807 := by omega
 clear hm z_s
 have hv0 : -9223372036854775808 ≤ v_p ∧ v_p ≤ 9223372036854775807 := by
  have e1 : IntKind.i64.min = -9223372036854775808 := rfl
  have e2 : IntKind.i64.max = 9223372036854775807 := rfl
  simp only [Lit.wf, Bool.and_eq_true, decide_eq_true_eq] at f_p
  omega
 obtain ⟨p0, p1⟩ := hv0
 clear f_p
 by_cases l_a : n_a ≤ 70 ∧ m_a ≤ 70
 case neg =>
  have T_a : RowKit.Hid ((decide (70 < n_a) || decide (70 < m_a)) = true) := by show _ = _; simp; omega
  have bw := bel_refl w
  have h_ra := row3_new w 27 (.bool g_a) (.slice A_a n_a c_a) (.slice B_a m_a d_a)
  have bn := below_new w (.cells #[Value.bool g_a, Value.slice A_a n_a c_a, Value.slice B_a m_a d_a] 27)
  replace HTab := Lib.hid (HTab.out.below bn)
  replace bw := below_two bw bn
  clear bn
  go_enter Tryz.func3, Tryz.ntmps3
  go_wp2_with fail
  generalize w.alloc (.cells #[Value.bool g_a, Value.slice A_a n_a c_a, Value.slice B_a m_a d_a] 27) = wP at *
  obtain ⟨q_a, eg⟩ : ∃ g, g = w.heap.size := ⟨_, rfl⟩
  rw [← eg] at h_ra ⊢
  clear eg
  refine (qlong_w g_a A_a B_a n_a c_a m_a d_a true T_a.out _).mono ?_
  rintro e w1 ⟨rfl, bn⟩
  replace h_ra := h_ra.below bn
  replace HTab := Lib.hid (HTab.out.below bn)
  replace bw := below_two bw bn
  clear bn
  go_wp2_with fail
  refine (wakes_any _ HTab.out).mono ?_
  rintro e w2 ⟨rfl, bn⟩
  replace h_ra := h_ra.below bn
  replace HTab := Lib.hid (HTab.out.below bn)
  replace bw := below_two bw bn
  clear bn
  go_wp2
  go_ret
  exact ⟨rfl, bw⟩
 have T_a : RowKit.Hid ((decide (70 < n_a) || decide (70 < m_a)) = false) := by show _ = _; simp; omega
 have h_a := QQ.of (s := g_a) i_a hc_a j_a kc_a l_a.1 l_a.2
 generalize readQ g_a xs_a ys_a = o_a at h_a
 have bw := bel_refl w
 by_cases l1 : 900 < s_s.size
 case pos =>
  have L1 : (900 : Int) < s_s.size := by omega
  clear l1
  have h_ra := row3_new w 27 (.bool g_a) (.slice A_a n_a c_a) (.slice B_a m_a d_a)
  have bn := below_new w (.cells #[Value.bool g_a, Value.slice A_a n_a c_a, Value.slice B_a m_a d_a] 27)
  replace h_a := h_a.below bn
  replace HTab := Lib.hid (HTab.out.below bn)
  replace bw := below_two bw bn
  clear bn
  go_enter Tryz.func3, Tryz.ntmps3
  go_wp2_with fail
  generalize w.alloc (.cells #[Value.bool g_a, Value.slice A_a n_a c_a, Value.slice B_a m_a d_a] 27) = wP at *
  obtain ⟨q_a, eg⟩ : ∃ g, g = w.heap.size := ⟨_, rfl⟩
  rw [← eg] at h_ra ⊢
  clear eg
  refine (qlong_w g_a A_a B_a n_a c_a m_a d_a false T_a.out _).mono ?_
  rintro e w3 ⟨rfl, bn⟩
  replace h_a := h_a.below bn
  replace h_ra := h_ra.below bn
  replace HTab := Lib.hid (HTab.out.below bn)
  replace bw := below_two bw bn
  clear bn
  go_wp2_with fail
  refine (wakes_any _ HTab.out).mono ?_
  rintro e w4 ⟨rfl, bn⟩
  replace h_a := h_a.below bn
  replace h_ra := h_ra.below bn
  replace HTab := Lib.hid (HTab.out.below bn)
  replace bw := below_two bw bn
  clear bn
  go_wp2
  go_ret
  exact ⟨rfl, bw⟩
 have L1 : (s_s.size : Int) ≤ 900 := by omega
 have hs : s_s.size ≤ 1000000000 := by omega
 clear l1
 obtain ⟨r0, e0, hR⟩ : ∃ r e, exR (bytesOf s_s) = (r, e) := ⟨_, _, rfl⟩
 have HR := Lib.hid hR
 clear hR
 obtain ⟨SX, hSX⟩ : ∃ S, strOf (exO o_a) = S := ⟨_, rfl⟩
 have HSX := Lib.hid hSX
 clear hSX
 cases hmay : (o_a.isSome && (decide (0 ≤ v_p) && decide (v_p ≤ 60))) with
 | false =>
  have HD : RowKit.Hid (decR Rat.floor o_a v_p = (⟨#[]⟩, 1)) := decR_no Rat.floor hmay
  have HU : RowKit.Hid (decR Rat.ceil o_a v_p = (⟨#[]⟩, 1)) := decR_no Rat.ceil hmay
  have HM : RowKit.Hid (decR nearQ o_a v_p = (⟨#[]⟩, 1)) := decR_no nearQ hmay
  have HF : RowKit.Hid (decF o_a v_p = (0, 1)) := decF_no hmay
  have HMAY := Lib.hid hmay
  clear hmay
  have h_ra := row3_new w 27 (.bool g_a) (.slice A_a n_a c_a) (.slice B_a m_a d_a)
  have bn := below_new w (.cells #[Value.bool g_a, Value.slice A_a n_a c_a, Value.slice B_a m_a d_a] 27)
  replace h_a := h_a.below bn
  replace HTab := Lib.hid (HTab.out.below bn)
  replace bw := below_two bw bn
  clear bn
  go_enter Tryz.func3, Tryz.ntmps3
  go_wp2_with fail
  generalize w.alloc (.cells #[Value.bool g_a, Value.slice A_a n_a c_a, Value.slice B_a m_a d_a] 27) = wP at *
  obtain ⟨q_a, eg⟩ : ∃ g, g = w.heap.size := ⟨_, rfl⟩
  rw [← eg] at h_ra ⊢
  clear eg
  refine (qlong_w g_a A_a B_a n_a c_a m_a d_a false T_a.out _).mono ?_
  rintro e w5 ⟨rfl, bn⟩
  replace h_a := h_a.below bn
  replace h_ra := h_ra.below bn
  replace HTab := Lib.hid (HTab.out.below bn)
  replace bw := below_two bw bn
  clear bn
  have c_a0 := h_ra.c0
  have c_a1 := h_ra.c1
  have c_a2 := h_ra.c2
  go_wp2_with fail
  clear c_a0 c_a1 c_a2
  refine (ownRat_c h_a (by decide)).mono ?_
  rintro e w6 ⟨A_p, n_p, c_p, B_p, m_p, d_p, rfl, h_p, bn⟩
  replace h_a := h_a.below bn
  replace h_ra := h_ra.below bn
  replace HTab := Lib.hid (HTab.out.below bn)
  replace bw := below_two bw bn
  clear bn
  have h_rp := row3_new w6 27 (.bool g_a) (.slice A_p n_p c_p) (.slice B_p m_p d_p)
  have bn := below_new w6 (.cells #[Value.bool g_a, Value.slice A_p n_p c_p, Value.slice B_p m_p d_p] 27)
  replace h_a := h_a.below bn
  replace h_ra := h_ra.below bn
  replace h_p := h_p.below bn
  replace HTab := Lib.hid (HTab.out.below bn)
  replace bw := below_two bw bn
  clear bn
  go_wp2_with fail
  generalize w6.alloc (.cells #[Value.bool g_a, Value.slice A_p n_p c_p, Value.slice B_p m_p d_p] 27) = w7 at *
  obtain ⟨q_p, eg⟩ : ∃ g, g = w6.heap.size := ⟨_, rfl⟩
  rw [← eg] at h_rp ⊢
  clear eg
  refine (dParse_c s_s hs _ HTab.out _ _ HR.out).mono ?_
  rintro e w8 ⟨A_r, n_r, c_r, B_r, m_r, d_r, rfl, h_r, bn⟩
  replace h_a := h_a.below bn
  replace h_ra := h_ra.below bn
  replace h_p := h_p.below bn
  replace h_rp := h_rp.below bn
  replace HTab := Lib.hid (HTab.out.below bn)
  replace bw := below_two bw bn
  clear bn
  have h_rr := row3_new w8 27 (.bool (sg (oTop r0))) (.slice A_r n_r c_r) (.slice B_r m_r d_r)
  have bn := below_new w8 (.cells #[Value.bool (sg (oTop r0)), Value.slice A_r n_r c_r, Value.slice B_r m_r d_r] 27)
  replace h_a := h_a.below bn
  replace h_ra := h_ra.below bn
  replace h_p := h_p.below bn
  replace h_rp := h_rp.below bn
  replace h_r := h_r.below bn
  replace HTab := Lib.hid (HTab.out.below bn)
  replace bw := below_two bw bn
  clear bn
  go_wp2_with fail
  generalize w8.alloc (.cells #[Value.bool (sg (oTop r0)), Value.slice A_r n_r c_r, Value.slice B_r m_r d_r] 27) = w9 at *
  obtain ⟨q_r, eg⟩ : ∃ g, g = w8.heap.size := ⟨_, rfl⟩
  rw [← eg] at h_rr ⊢
  clear eg
  refine (refDParse_c s_s (by omega) _ _ _ HR.out).mono ?_
  rintro e w10 ⟨A_gg, n_gg, c_gg, B_gg, m_gg, d_gg, rfl, h_gg, bn⟩
  replace h_a := h_a.below bn
  replace h_ra := h_ra.below bn
  replace h_p := h_p.below bn
  replace h_rp := h_rp.below bn
  replace h_r := h_r.below bn
  replace h_rr := h_rr.below bn
  replace HTab := Lib.hid (HTab.out.below bn)
  replace bw := below_two bw bn
  clear bn
  have h_rgg := row4_new w10 35 (.bool (sg (oTop r0))) (.slice A_gg n_gg c_gg) (.slice B_gg m_gg d_gg) (.int .i64 e0)
  have bn := below_new w10 (.cells #[Value.bool (sg (oTop r0)), Value.slice A_gg n_gg c_gg, Value.slice B_gg m_gg d_gg, Value.int .i64 e0] 35)
  replace h_a := h_a.below bn
  replace h_ra := h_ra.below bn
  replace h_p := h_p.below bn
  replace h_rp := h_rp.below bn
  replace h_r := h_r.below bn
  replace h_rr := h_rr.below bn
  replace h_gg := h_gg.below bn
  replace HTab := Lib.hid (HTab.out.below bn)
  replace bw := below_two bw bn
  clear bn
  have c_p0 := h_rp.c0
  have c_p1 := h_rp.c1
  have c_p2 := h_rp.c2
  go_wp2_with fail
  clear c_p0 c_p1 c_p2
  generalize w10.alloc (.cells #[Value.bool (sg (oTop r0)), Value.slice A_gg n_gg c_gg, Value.slice B_gg m_gg d_gg, Value.int .i64 e0] 35) = w11 at *
  obtain ⟨q_gg, eg⟩ : ∃ g, g = w10.heap.size := ⟨_, rfl⟩
  rw [← eg] at h_rgg ⊢
  clear eg
  refine (dDown_c h_p (by decide) HTab.out v_p (by omega) (by omega) _ _ HD.out).mono ?_
  rintro e w12 ⟨rfl, bn⟩
  replace h_a := h_a.below bn
  replace h_ra := h_ra.below bn
  replace h_p := h_p.below bn
  replace h_rp := h_rp.below bn
  replace h_r := h_r.below bn
  replace h_rr := h_rr.below bn
  replace h_gg := h_gg.below bn
  replace h_rgg := h_rgg.below bn
  replace HTab := Lib.hid (HTab.out.below bn)
  replace bw := below_two bw bn
  clear bn
  have c_p0 := h_rp.c0
  have c_p1 := h_rp.c1
  have c_p2 := h_rp.c2
  go_wp2_with fail
  clear c_p0 c_p1 c_p2
  refine (dUp_c h_p (by decide) HTab.out v_p (by omega) (by omega) _ _ HU.out).mono ?_
  rintro e w13 ⟨rfl, bn⟩
  replace h_a := h_a.below bn
  replace h_ra := h_ra.below bn
  replace h_p := h_p.below bn
  replace h_rp := h_rp.below bn
  replace h_r := h_r.below bn
  replace h_rr := h_rr.below bn
  replace h_gg := h_gg.below bn
  replace h_rgg := h_rgg.below bn
  replace HTab := Lib.hid (HTab.out.below bn)
  replace bw := below_two bw bn
  clear bn
  have c_p0 := h_rp.c0
  have c_p1 := h_rp.c1
  have c_p2 := h_rp.c2
  go_wp2_with fail
  clear c_p0 c_p1 c_p2
  refine (dNear_c h_p (by decide) HTab.out v_p (by omega) (by omega) _ _ HM.out).mono ?_
  rintro e w14 ⟨rfl, bn⟩
  replace h_a := h_a.below bn
  replace h_ra := h_ra.below bn
  replace h_p := h_p.below bn
  replace h_rp := h_rp.below bn
  replace h_r := h_r.below bn
  replace h_rr := h_rr.below bn
  replace h_gg := h_gg.below bn
  replace h_rgg := h_rgg.below bn
  replace HTab := Lib.hid (HTab.out.below bn)
  replace bw := below_two bw bn
  clear bn
  have c_p0 := h_rp.c0
  have c_p1 := h_rp.c1
  have c_p2 := h_rp.c2
  go_wp2_with fail
  clear c_p0 c_p1 c_p2
  refine (dFloor_c h_p (by decide) HTab.out v_p (by omega) (by omega) _ _ HF.out).mono ?_
  rintro e w15 ⟨A_v, n_v, c_v, rfl, h_v, bn⟩
  replace h_a := h_a.below bn
  replace h_ra := h_ra.below bn
  replace h_p := h_p.below bn
  replace h_rp := h_rp.below bn
  replace h_r := h_r.below bn
  replace h_rr := h_rr.below bn
  replace h_gg := h_gg.below bn
  replace h_rgg := h_rgg.below bn
  replace HTab := Lib.hid (HTab.out.below bn)
  replace bw := below_two bw bn
  clear bn
  have h_rv := row2_new w15 25 (.bool (sg 0)) (.slice A_v n_v c_v)
  have bn := below_new w15 (.cells #[Value.bool (sg 0), Value.slice A_v n_v c_v] 25)
  replace h_a := h_a.below bn
  replace h_ra := h_ra.below bn
  replace h_p := h_p.below bn
  replace h_rp := h_rp.below bn
  replace h_r := h_r.below bn
  replace h_rr := h_rr.below bn
  replace h_gg := h_gg.below bn
  replace h_rgg := h_rgg.below bn
  replace h_v := h_v.below bn
  replace HTab := Lib.hid (HTab.out.below bn)
  replace bw := below_two bw bn
  clear bn
  go_wp2
  generalize w15.alloc (.cells #[Value.bool (sg 0), Value.slice A_v n_v c_v] 25) = w16 at *
  obtain ⟨q_v, eg⟩ : ∃ g, g = w15.heap.size := ⟨_, rfl⟩
  rw [← eg] at h_rv ⊢
  clear eg
  generalize w16 = wS at *
  refine region_freeg 24 0 [60, 61, 62, 63, 64, 65, 66, 67, 68, 69, 70, 71, 72, 73, 74, 75, 76, 77, 78, 79, 80, 81, 82, 83] ?aF25 (fun wx => Below wS.heap.size wS wx) (fun k vv wx => match k with
   | 0 => vv = .agg #[.bool g_a, .slice A_p n_p c_p, .slice B_p m_p d_p]
   | 1 => vv = .string SX
   | 2 => vv = .agg #[.bool g_a, .slice A_a n_a c_a, .slice B_a m_a d_a]
   | 3 => vv = .string SX
   | 4 => vv = .bool false
   | 5 => vv = .bool false
   | 6 => vv = .agg #[.bool (sg (oTop r0)), .slice A_r n_r c_r, .slice B_r m_r d_r]
   | 7 => vv = .pointer (some ⟨q_gg, 0, none⟩)
   | 8 => vv = .agg #[.bool (sg (oTop r0)), .slice A_gg n_gg c_gg, .slice B_gg m_gg d_gg]
   | 9 => vv = .bool true
   | 10 => vv = .bool false
   | 11 => vv = .bool false
   | 12 => vv = .bool false
   | 13 => vv = .int .i64 e0
   | 14 => vv = .pointer (some ⟨q_gg, 3, none⟩)
   | 15 => vv = .int .i64 e0
   | 16 => vv = .bool false
   | 17 => vv = .bool false
   | 18 => vv = .bool false
   | 19 => vv = .agg #[.bool g_a, .slice A_p n_p c_p, .slice B_p m_p d_p]
   | 20 => vv = .agg #[.bool g_a, .slice A_a n_a c_a, .slice B_a m_a d_a]
   | 21 => vv = .bool true
   | 22 => vv = .bool false
   | _ => vv = .bool false)
   (fun k => false) (by kernel_rfl) ?haF25 rfl (by kernel_rfl) (by kernel_rfl) (fun _ _ _ _ _ h => h) ?hSb25 ?hPb25 ?hS25 ?hop25 ?hfin25
  case haF25 =>
   intro vals
   simp only [fillAll, List.getElem?_cons_zero, List.getElem?_cons_succ, Act.put, List.setIfInBounds_toArray, List.set_cons_zero, List.set_cons_succ]
   exact rfl
  case hSb25 => exact fun wx w2 hb hS => below_two hS hb
  case hPb25 =>
   intro k v wa wb hb h
   match k, h with
   | 0, h => exact h
   | 1, h => exact h
   | 2, h => exact h
   | 3, h => exact h
   | 4, h => exact h
   | 5, h => exact h
   | 6, h => exact h
   | 7, h => exact h
   | 8, h => exact h
   | 9, h => exact h
   | 10, h => exact h
   | 11, h => exact h
   | 12, h => exact h
   | 13, h => exact h
   | 14, h => exact h
   | 15, h => exact h
   | 16, h => exact h
   | 17, h => exact h
   | 18, h => exact h
   | 19, h => exact h
   | 20, h => exact h
   | 21, h => exact h
   | 22, h => exact h
   | _ + 23, h => exact h
  case hS25 => exact (Below.refl _ _).drew
  case hop25 =>
   refine .cons (k := 0) (.plain rfl ?_) (.cons (k := 1) (.plain rfl ?_) (.cons (k := 2) (.plain rfl ?_) (.cons (k := 3) (.plain rfl ?_) (.cons (k := 4) (.plain rfl ?_) (.cons (k := 5) (.plain rfl ?_) (.cons (k := 6) (.yes (fun vals wr hS hd g b e => by cases e; exact hd 5 (by decide +kernel)) ?_) (.cons (k := 7) (.yes (fun vals wr hS hd g b e => by cases e; exact hd 5 (by decide +kernel)) ?_) (.cons (k := 8) (.yes (fun vals wr hS hd g b e => by cases e; exact hd 5 (by decide +kernel)) ?_) (.cons (k := 9) (.yes (fun vals wr hS hd g b e => by cases e; exact hd 5 (by decide +kernel)) ?_) (.cons (k := 10) (.yes (fun vals wr hS hd g b e => by cases e; exact hd 5 (by decide +kernel)) ?_) (.cons (k := 11) (.plain rfl ?_) (.cons (k := 12) (.plain rfl ?_) (.cons (k := 13) (.yes (fun vals wr hS hd g b e => by cases e; exact hd 12 (by decide +kernel)) ?_) (.cons (k := 14) (.yes (fun vals wr hS hd g b e => by cases e; exact hd 12 (by decide +kernel)) ?_) (.cons (k := 15) (.yes (fun vals wr hS hd g b e => by cases e; exact hd 12 (by decide +kernel)) ?_) (.cons (k := 16) (.yes (fun vals wr hS hd g b e => by cases e; exact hd 12 (by decide +kernel)) ?_) (.cons (k := 17) (.plain rfl ?_) (.cons (k := 18) (.plain rfl ?_) (.cons (k := 19) (.yes (fun vals wr hS hd g b e => by cases e; exact hd 18 (by decide +kernel)) ?_) (.cons (k := 20) (.yes (fun vals wr hS hd g b e => by cases e; exact hd 18 (by decide +kernel)) ?_) (.cons (k := 21) (.yes (fun vals wr hS hd g b e => by cases e; exact hd 18 (by decide +kernel)) ?_) (.cons (k := 22) (.yes (fun vals wr hS hd g b e => by cases e; exact hd 18 (by decide +kernel)) ?_) (.cons (k := 23) (.plain rfl ?_) (.nil))))))))))))))))))))))))
   all_goals intro vals wr hS hd KC hK
   all_goals (show Oper.wp _ _ _ _ _ _; dsimp only)
   · have z0 := (h_rp.below hS).c0
     have z1 := (h_rp.below hS).c1
     have z2 := (h_rp.below hS).c2
     go_simp
     refine hK _ _ rfl (Below.refl _ _) (by first | rfl | simp) (fun h => by cases h)
   · have d0 : vals 0 = _ := hd 0 (by decide +kernel)
     rw [d0]
     go_simp
     go_at_call 18
     with_reducible refine (dExact_c (h_p.below hS) (by decide) (HTab.out.below hS) SX HSX.out).mono ?_
     rintro e w2 ⟨rfl, bn_r⟩
     refine hK _ _ rfl bn_r rfl (fun h => by cases h)
   · have z0 := (h_ra.below hS).c0
     have z1 := (h_ra.below hS).c1
     have z2 := (h_ra.below hS).c2
     go_simp
     refine hK _ _ rfl (Below.refl _ _) (by first | rfl | simp) (fun h => by cases h)
   · have d2 : vals 2 = _ := hd 2 (by decide +kernel)
     rw [d2]
     go_simp
     go_at_call 19
     with_reducible refine (refDExact_c (h_a.below hS) (by decide) SX HSX.out).mono ?_
     rintro e w2 ⟨rfl, bn_r⟩
     refine hK _ _ rfl bn_r rfl (fun h => by cases h)
   · have d1 : vals 1 = _ := hd 1 (by decide +kernel)
     have d3 : vals 3 = _ := hd 3 (by decide +kernel)
     rw [d1, d3]
     go_simp
     refine hK _ _ rfl (Below.refl _ _) (by first | rfl | simp) (fun h => by cases h)
   · have d4 : vals 4 = _ := hd 4 (by decide +kernel)
     rw [d4]
     go_simp
     refine hK _ _ rfl (Below.refl _ _) (by first | rfl | simp) (fun h => by cases h)
   · have z0 := (h_rr.below hS).c0
     have z1 := (h_rr.below hS).c1
     have z2 := (h_rr.below hS).c2
     go_simp
     refine hK _ _ rfl (Below.refl _ _) (by first | rfl | simp) (fun h => by cases h)
   · go_simp
     refine hK _ _ rfl (Below.refl _ _) (by first | rfl | simp) (fun h => by cases h)
   · have d7 : vals 7 = _ := hd 7 (by decide +kernel)
     rw [d7]
     have z0 := (h_rgg.below hS).c0
     have z1 := (h_rgg.below hS).c1
     have z2 := (h_rgg.below hS).c2
     go_simp
     refine hK _ _ rfl (Below.refl _ _) (by first | rfl | simp) (fun h => by cases h)
   · have d6 : vals 6 = _ := hd 6 (by decide +kernel)
     have d8 : vals 8 = _ := hd 8 (by decide +kernel)
     rw [d6, d8]
     go_simp
     go_at_call 20
     with_reducible refine (keepRat_c (h_r.below hS) (h_gg.below hS) (by decide) (by decide) true (keepQ rfl)).mono ?_
     rintro e w2 ⟨rfl, bn_r⟩
     refine hK _ _ rfl bn_r rfl (fun h => by cases h)
   · have d9 : vals 9 = _ := hd 9 (by decide +kernel)
     rw [d9]
     go_simp
     refine hK _ _ rfl (Below.refl _ _) (by first | rfl | simp) (fun h => by cases h)
   · have d5 : vals 5 = _ := hd 5 (by decide +kernel)
     have d10 : vals 10 = _ := hd 10 (by decide +kernel)
     rw [d5, d10]
     go_simp
     refine hK _ _ rfl (Below.refl _ _) (by first | rfl | simp) (fun h => by cases h)
   · have d11 : vals 11 = _ := hd 11 (by decide +kernel)
     rw [d11]
     go_simp
     refine hK _ _ rfl (Below.refl _ _) (by first | rfl | simp) (fun h => by cases h)
   · go_simp
     refine hK _ _ rfl (Below.refl _ _) (by first | rfl | simp) (fun h => by cases h)
   · go_simp
     refine hK _ _ rfl (Below.refl _ _) (by first | rfl | simp) (fun h => by cases h)
   · have d14 : vals 14 = _ := hd 14 (by decide +kernel)
     rw [d14]
     have z0 := (h_rgg.below hS).c3
     go_simp
     refine hK _ _ rfl (Below.refl _ _) (by first | rfl | simp) (fun h => by cases h)
   · have d13 : vals 13 = _ := hd 13 (by decide +kernel)
     have d15 : vals 15 = _ := hd 15 (by decide +kernel)
     rw [d13, d15]
     go_simp
     refine hK _ _ rfl (Below.refl _ _) (by first | rfl | simp) (fun h => by cases h)
   · have d12 : vals 12 = _ := hd 12 (by decide +kernel)
     have d16 : vals 16 = _ := hd 16 (by decide +kernel)
     rw [d12, d16]
     go_simp
     refine hK _ _ rfl (Below.refl _ _) (by first | rfl | simp) (fun h => by cases h)
   · have d17 : vals 17 = _ := hd 17 (by decide +kernel)
     rw [d17]
     go_simp
     refine hK _ _ rfl (Below.refl _ _) (by first | rfl | simp) (fun h => by cases h)
   · have z0 := (h_rp.below hS).c0
     have z1 := (h_rp.below hS).c1
     have z2 := (h_rp.below hS).c2
     go_simp
     refine hK _ _ rfl (Below.refl _ _) (by first | rfl | simp) (fun h => by cases h)
   · have z0 := (h_ra.below hS).c0
     have z1 := (h_ra.below hS).c1
     have z2 := (h_ra.below hS).c2
     go_simp
     refine hK _ _ rfl (Below.refl _ _) (by first | rfl | simp) (fun h => by cases h)
   · have d19 : vals 19 = _ := hd 19 (by decide +kernel)
     have d20 : vals 20 = _ := hd 20 (by decide +kernel)
     rw [d19, d20]
     go_simp
     go_at_call 20
     with_reducible refine (keepRat_c (h_p.below hS) (h_a.below hS) (by decide) (by decide) true (keep_self3 _ _ _)).mono ?_
     rintro e w2 ⟨rfl, bn_r⟩
     refine hK _ _ rfl bn_r rfl (fun h => by cases h)
   · have d21 : vals 21 = _ := hd 21 (by decide +kernel)
     rw [d21]
     go_simp
     refine hK _ _ rfl (Below.refl _ _) (by first | rfl | simp) (fun h => by cases h)
   · have d18 : vals 18 = _ := hd 18 (by decide +kernel)
     have d22 : vals 22 = _ := hd 22 (by decide +kernel)
     rw [d18, d22]
     go_simp
     refine hK _ _ rfl (Below.refl _ _) (by first | rfl | simp) (fun h => by cases h)
  case hfin25 =>
   intro vals wr hS hP hne
   have ez_23 : vals 23 = _ := hP 23 (by decide)
   try dsimp only
   rw [ez_23]
   refine wpAny_done (by kernel_rfl) ?_ _
   generalize wr = w17 at *
   have bn := hS
   clear hS ez_23
   replace h_a := h_a.below bn
   replace h_ra := h_ra.below bn
   replace h_p := h_p.below bn
   replace h_rp := h_rp.below bn
   replace h_r := h_r.below bn
   replace h_rr := h_rr.below bn
   replace h_gg := h_gg.below bn
   replace h_rgg := h_rgg.below bn
   replace h_v := h_v.below bn
   replace h_rv := h_rv.below bn
   replace HTab := Lib.hid (HTab.out.below bn)
   replace bw := below_two bw bn
   clear bn
   have c_a0 := h_ra.c0
   have c_a1 := h_ra.c1
   have c_a2 := h_ra.c2
   go_wp2_with fail
   clear c_a0 c_a1 c_a2
   refine (refDMay_c h_a (by decide) v_p false HMAY.out).mono ?_
   rintro e w18 ⟨rfl, bn⟩
   replace h_a := h_a.below bn
   replace h_ra := h_ra.below bn
   replace h_p := h_p.below bn
   replace h_rp := h_rp.below bn
   replace h_r := h_r.below bn
   replace h_rr := h_rr.below bn
   replace h_gg := h_gg.below bn
   replace h_rgg := h_rgg.below bn
   replace h_v := h_v.below bn
   replace h_rv := h_rv.below bn
   replace HTab := Lib.hid (HTab.out.below bn)
   replace bw := below_two bw bn
   clear bn
   have n0 : n_v = 0 := by have h := h_v.nn.isN.len; rw [show (0 : Int).natAbs = 0 from rfl, limbs_zero] at h; exact h.symm
   subst n0
   have es : sg (0 : Int) = false := rfl
   have c_v0 := h_rv.c0
   have c_v1 := h_rv.c1
   go_wp2_with fail
   clear c_v0 c_v1
   refine (wakes_any _ HTab.out).mono ?_
   rintro e w19 ⟨rfl, bn⟩
   replace h_a := h_a.below bn
   replace h_ra := h_ra.below bn
   replace h_p := h_p.below bn
   replace h_rp := h_rp.below bn
   replace h_r := h_r.below bn
   replace h_rr := h_rr.below bn
   replace h_gg := h_gg.below bn
   replace h_rgg := h_rgg.below bn
   replace h_v := h_v.below bn
   replace h_rv := h_rv.below bn
   replace HTab := Lib.hid (HTab.out.below bn)
   replace bw := below_two bw bn
   clear bn
   go_wp2
   go_ret
   exact ⟨rfl, bw⟩
 | true =>
  obtain ⟨q, hq⟩ : ∃ q, o_a = some q := by cases o_a with
   | none => cases hmay
   | some q => exact ⟨q, rfl⟩
  subst hq
  obtain ⟨N, rfl, hN⟩ : ∃ N : Nat, v_p = (N : Int) ∧ N ≤ 60 := by
   simp only [Option.isSome, Bool.true_and, Bool.and_eq_true, decide_eq_true_eq] at hmay
   exact ⟨v_p.toNat, by omega, by omega⟩
  obtain ⟨SD, hSD⟩ : ∃ S, strOf (pointT (Rat.floor (movedQ q (N))) (N)) = S := ⟨_, rfl⟩
  have HS_SD : RowKit.Hid (decR Rat.floor (some q) ((N : Int)) = (SD, 0)) := decR_yes Rat.floor (by omega) hSD
  have HT_SD := Lib.hid hSD
  clear hSD
  obtain ⟨SU, hSU⟩ : ∃ S, strOf (pointT (Rat.ceil (movedQ q (N))) (N)) = S := ⟨_, rfl⟩
  have HS_SU : RowKit.Hid (decR Rat.ceil (some q) ((N : Int)) = (SU, 0)) := decR_yes Rat.ceil (by omega) hSU
  have HT_SU := Lib.hid hSU
  clear hSU
  obtain ⟨SM, hSM⟩ : ∃ S, strOf (pointT (nearQ (movedQ q (N))) (N)) = S := ⟨_, rfl⟩
  have HS_SM : RowKit.Hid (decR nearQ (some q) ((N : Int)) = (SM, 0)) := decR_yes nearQ (by omega) hSM
  have HT_SM := Lib.hid hSM
  clear hSM
  obtain ⟨zf, hzf⟩ : ∃ z, (movedQ q N).floor = z := ⟨_, rfl⟩
  have HF : RowKit.Hid (decF (some q) (N : Int) = (zf, 0)) := decF_yes hN hzf
  have HZF := Lib.hid hzf
  clear hzf
  have HD := HS_SD
  have HU := HS_SU
  have HM := HS_SM
  obtain ⟨t1, t2, t3, -, -, -, -⟩ := qq_told h_a
  clear i_a j_a
  subst t1
  subst t2
  subst t3
  have HMAY := Lib.hid hmay
  clear hmay
  have h_ra := row3_new w 27 (.bool (sg (oTop (some q)))) (.slice A_a n_a c_a) (.slice B_a m_a d_a)
  have bn := below_new w (.cells #[Value.bool (sg (oTop (some q))), Value.slice A_a n_a c_a, Value.slice B_a m_a d_a] 27)
  replace h_a := h_a.below bn
  replace HTab := Lib.hid (HTab.out.below bn)
  replace bw := below_two bw bn
  clear bn
  go_enter Tryz.func3, Tryz.ntmps3
  go_wp2_with fail
  generalize w.alloc (.cells #[Value.bool (sg (oTop (some q))), Value.slice A_a n_a c_a, Value.slice B_a m_a d_a] 27) = wP at *
  obtain ⟨q_a, eg⟩ : ∃ g, g = w.heap.size := ⟨_, rfl⟩
  rw [← eg] at h_ra ⊢
  clear eg
  refine (qlong_w (sg (oTop (some q))) A_a B_a n_a c_a m_a d_a false T_a.out _).mono ?_
  rintro e w20 ⟨rfl, bn⟩
  replace h_a := h_a.below bn
  replace h_ra := h_ra.below bn
  replace HTab := Lib.hid (HTab.out.below bn)
  replace bw := below_two bw bn
  clear bn
  have c_a0 := h_ra.c0
  have c_a1 := h_ra.c1
  have c_a2 := h_ra.c2
  go_wp2_with fail
  clear c_a0 c_a1 c_a2
  refine (ownRat_c h_a (by decide)).mono ?_
  rintro e w21 ⟨A_p, n_p, c_p, B_p, m_p, d_p, rfl, h_p, bn⟩
  replace h_a := h_a.below bn
  replace h_ra := h_ra.below bn
  replace HTab := Lib.hid (HTab.out.below bn)
  replace bw := below_two bw bn
  clear bn
  have h_rp := row3_new w21 27 (.bool (sg (oTop (some q)))) (.slice A_p n_p c_p) (.slice B_p m_p d_p)
  have bn := below_new w21 (.cells #[Value.bool (sg (oTop (some q))), Value.slice A_p n_p c_p, Value.slice B_p m_p d_p] 27)
  replace h_a := h_a.below bn
  replace h_ra := h_ra.below bn
  replace h_p := h_p.below bn
  replace HTab := Lib.hid (HTab.out.below bn)
  replace bw := below_two bw bn
  clear bn
  go_wp2_with fail
  generalize w21.alloc (.cells #[Value.bool (sg (oTop (some q))), Value.slice A_p n_p c_p, Value.slice B_p m_p d_p] 27) = w22 at *
  obtain ⟨q_p, eg⟩ : ∃ g, g = w21.heap.size := ⟨_, rfl⟩
  rw [← eg] at h_rp ⊢
  clear eg
  refine (dParse_c s_s hs _ HTab.out _ _ HR.out).mono ?_
  rintro e w23 ⟨A_r, n_r, c_r, B_r, m_r, d_r, rfl, h_r, bn⟩
  replace h_a := h_a.below bn
  replace h_ra := h_ra.below bn
  replace h_p := h_p.below bn
  replace h_rp := h_rp.below bn
  replace HTab := Lib.hid (HTab.out.below bn)
  replace bw := below_two bw bn
  clear bn
  have h_rr := row3_new w23 27 (.bool (sg (oTop r0))) (.slice A_r n_r c_r) (.slice B_r m_r d_r)
  have bn := below_new w23 (.cells #[Value.bool (sg (oTop r0)), Value.slice A_r n_r c_r, Value.slice B_r m_r d_r] 27)
  replace h_a := h_a.below bn
  replace h_ra := h_ra.below bn
  replace h_p := h_p.below bn
  replace h_rp := h_rp.below bn
  replace h_r := h_r.below bn
  replace HTab := Lib.hid (HTab.out.below bn)
  replace bw := below_two bw bn
  clear bn
  go_wp2_with fail
  generalize w23.alloc (.cells #[Value.bool (sg (oTop r0)), Value.slice A_r n_r c_r, Value.slice B_r m_r d_r] 27) = w24 at *
  obtain ⟨q_r, eg⟩ : ∃ g, g = w23.heap.size := ⟨_, rfl⟩
  rw [← eg] at h_rr ⊢
  clear eg
  refine (refDParse_c s_s (by omega) _ _ _ HR.out).mono ?_
  rintro e w25 ⟨A_gg, n_gg, c_gg, B_gg, m_gg, d_gg, rfl, h_gg, bn⟩
  replace h_a := h_a.below bn
  replace h_ra := h_ra.below bn
  replace h_p := h_p.below bn
  replace h_rp := h_rp.below bn
  replace h_r := h_r.below bn
  replace h_rr := h_rr.below bn
  replace HTab := Lib.hid (HTab.out.below bn)
  replace bw := below_two bw bn
  clear bn
  have h_rgg := row4_new w25 35 (.bool (sg (oTop r0))) (.slice A_gg n_gg c_gg) (.slice B_gg m_gg d_gg) (.int .i64 e0)
  have bn := below_new w25 (.cells #[Value.bool (sg (oTop r0)), Value.slice A_gg n_gg c_gg, Value.slice B_gg m_gg d_gg, Value.int .i64 e0] 35)
  replace h_a := h_a.below bn
  replace h_ra := h_ra.below bn
  replace h_p := h_p.below bn
  replace h_rp := h_rp.below bn
  replace h_r := h_r.below bn
  replace h_rr := h_rr.below bn
  replace h_gg := h_gg.below bn
  replace HTab := Lib.hid (HTab.out.below bn)
  replace bw := below_two bw bn
  clear bn
  have c_p0 := h_rp.c0
  have c_p1 := h_rp.c1
  have c_p2 := h_rp.c2
  go_wp2_with fail
  clear c_p0 c_p1 c_p2
  generalize w25.alloc (.cells #[Value.bool (sg (oTop r0)), Value.slice A_gg n_gg c_gg, Value.slice B_gg m_gg d_gg, Value.int .i64 e0] 35) = w26 at *
  obtain ⟨q_gg, eg⟩ : ∃ g, g = w25.heap.size := ⟨_, rfl⟩
  rw [← eg] at h_rgg ⊢
  clear eg
  refine (dDown_c h_p (by decide) HTab.out (N : Int) (by omega) (by omega) _ _ HD.out).mono ?_
  rintro e w27 ⟨rfl, bn⟩
  replace h_a := h_a.below bn
  replace h_ra := h_ra.below bn
  replace h_p := h_p.below bn
  replace h_rp := h_rp.below bn
  replace h_r := h_r.below bn
  replace h_rr := h_rr.below bn
  replace h_gg := h_gg.below bn
  replace h_rgg := h_rgg.below bn
  replace HTab := Lib.hid (HTab.out.below bn)
  replace bw := below_two bw bn
  clear bn
  have c_p0 := h_rp.c0
  have c_p1 := h_rp.c1
  have c_p2 := h_rp.c2
  go_wp2_with fail
  clear c_p0 c_p1 c_p2
  refine (dUp_c h_p (by decide) HTab.out (N : Int) (by omega) (by omega) _ _ HU.out).mono ?_
  rintro e w28 ⟨rfl, bn⟩
  replace h_a := h_a.below bn
  replace h_ra := h_ra.below bn
  replace h_p := h_p.below bn
  replace h_rp := h_rp.below bn
  replace h_r := h_r.below bn
  replace h_rr := h_rr.below bn
  replace h_gg := h_gg.below bn
  replace h_rgg := h_rgg.below bn
  replace HTab := Lib.hid (HTab.out.below bn)
  replace bw := below_two bw bn
  clear bn
  have c_p0 := h_rp.c0
  have c_p1 := h_rp.c1
  have c_p2 := h_rp.c2
  go_wp2_with fail
  clear c_p0 c_p1 c_p2
  refine (dNear_c h_p (by decide) HTab.out (N : Int) (by omega) (by omega) _ _ HM.out).mono ?_
  rintro e w29 ⟨rfl, bn⟩
  replace h_a := h_a.below bn
  replace h_ra := h_ra.below bn
  replace h_p := h_p.below bn
  replace h_rp := h_rp.below bn
  replace h_r := h_r.below bn
  replace h_rr := h_rr.below bn
  replace h_gg := h_gg.below bn
  replace h_rgg := h_rgg.below bn
  replace HTab := Lib.hid (HTab.out.below bn)
  replace bw := below_two bw bn
  clear bn
  have c_p0 := h_rp.c0
  have c_p1 := h_rp.c1
  have c_p2 := h_rp.c2
  go_wp2_with fail
  clear c_p0 c_p1 c_p2
  refine (dFloor_c h_p (by decide) HTab.out (N : Int) (by omega) (by omega) _ _ HF.out).mono ?_
  rintro e w30 ⟨A_v, n_v, c_v, rfl, h_v, bn⟩
  replace h_a := h_a.below bn
  replace h_ra := h_ra.below bn
  replace h_p := h_p.below bn
  replace h_rp := h_rp.below bn
  replace h_r := h_r.below bn
  replace h_rr := h_rr.below bn
  replace h_gg := h_gg.below bn
  replace h_rgg := h_rgg.below bn
  replace HTab := Lib.hid (HTab.out.below bn)
  replace bw := below_two bw bn
  clear bn
  have h_rv := row2_new w30 25 (.bool (sg zf)) (.slice A_v n_v c_v)
  have bn := below_new w30 (.cells #[Value.bool (sg zf), Value.slice A_v n_v c_v] 25)
  replace h_a := h_a.below bn
  replace h_ra := h_ra.below bn
  replace h_p := h_p.below bn
  replace h_rp := h_rp.below bn
  replace h_r := h_r.below bn
  replace h_rr := h_rr.below bn
  replace h_gg := h_gg.below bn
  replace h_rgg := h_rgg.below bn
  replace h_v := h_v.below bn
  replace HTab := Lib.hid (HTab.out.below bn)
  replace bw := below_two bw bn
  clear bn
  go_wp2
  generalize w30.alloc (.cells #[Value.bool (sg zf), Value.slice A_v n_v c_v] 25) = w31 at *
  obtain ⟨q_v, eg⟩ : ∃ g, g = w30.heap.size := ⟨_, rfl⟩
  rw [← eg] at h_rv ⊢
  clear eg
  generalize w31 = wS at *
  refine region_freeg 24 0 [60, 61, 62, 63, 64, 65, 66, 67, 68, 69, 70, 71, 72, 73, 74, 75, 76, 77, 78, 79, 80, 81, 82, 83] ?aF26 (fun wx => Below wS.heap.size wS wx) (fun k vv wx => match k with
   | 0 => vv = .agg #[.bool (sg (oTop (some q))), .slice A_p n_p c_p, .slice B_p m_p d_p]
   | 1 => vv = .string SX
   | 2 => vv = .agg #[.bool (sg (oTop (some q))), .slice A_a n_a c_a, .slice B_a m_a d_a]
   | 3 => vv = .string SX
   | 4 => vv = .bool false
   | 5 => vv = .bool false
   | 6 => vv = .agg #[.bool (sg (oTop r0)), .slice A_r n_r c_r, .slice B_r m_r d_r]
   | 7 => vv = .pointer (some ⟨q_gg, 0, none⟩)
   | 8 => vv = .agg #[.bool (sg (oTop r0)), .slice A_gg n_gg c_gg, .slice B_gg m_gg d_gg]
   | 9 => vv = .bool true
   | 10 => vv = .bool false
   | 11 => vv = .bool false
   | 12 => vv = .bool false
   | 13 => vv = .int .i64 e0
   | 14 => vv = .pointer (some ⟨q_gg, 3, none⟩)
   | 15 => vv = .int .i64 e0
   | 16 => vv = .bool false
   | 17 => vv = .bool false
   | 18 => vv = .bool false
   | 19 => vv = .agg #[.bool (sg (oTop (some q))), .slice A_p n_p c_p, .slice B_p m_p d_p]
   | 20 => vv = .agg #[.bool (sg (oTop (some q))), .slice A_a n_a c_a, .slice B_a m_a d_a]
   | 21 => vv = .bool true
   | 22 => vv = .bool false
   | _ => vv = .bool false)
   (fun k => false) (by kernel_rfl) ?haF26 rfl (by kernel_rfl) (by kernel_rfl) (fun _ _ _ _ _ h => h) ?hSb26 ?hPb26 ?hS26 ?hop26 ?hfin26
  case haF26 =>
   intro vals
   simp only [fillAll, List.getElem?_cons_zero, List.getElem?_cons_succ, Act.put, List.setIfInBounds_toArray, List.set_cons_zero, List.set_cons_succ]
   exact rfl
  case hSb26 => exact fun wx w2 hb hS => below_two hS hb
  case hPb26 =>
   intro k v wa wb hb h
   match k, h with
   | 0, h => exact h
   | 1, h => exact h
   | 2, h => exact h
   | 3, h => exact h
   | 4, h => exact h
   | 5, h => exact h
   | 6, h => exact h
   | 7, h => exact h
   | 8, h => exact h
   | 9, h => exact h
   | 10, h => exact h
   | 11, h => exact h
   | 12, h => exact h
   | 13, h => exact h
   | 14, h => exact h
   | 15, h => exact h
   | 16, h => exact h
   | 17, h => exact h
   | 18, h => exact h
   | 19, h => exact h
   | 20, h => exact h
   | 21, h => exact h
   | 22, h => exact h
   | _ + 23, h => exact h
  case hS26 => exact (Below.refl _ _).drew
  case hop26 =>
   refine .cons (k := 0) (.plain rfl ?_) (.cons (k := 1) (.plain rfl ?_) (.cons (k := 2) (.plain rfl ?_) (.cons (k := 3) (.plain rfl ?_) (.cons (k := 4) (.plain rfl ?_) (.cons (k := 5) (.plain rfl ?_) (.cons (k := 6) (.yes (fun vals wr hS hd g b e => by cases e; exact hd 5 (by decide +kernel)) ?_) (.cons (k := 7) (.yes (fun vals wr hS hd g b e => by cases e; exact hd 5 (by decide +kernel)) ?_) (.cons (k := 8) (.yes (fun vals wr hS hd g b e => by cases e; exact hd 5 (by decide +kernel)) ?_) (.cons (k := 9) (.yes (fun vals wr hS hd g b e => by cases e; exact hd 5 (by decide +kernel)) ?_) (.cons (k := 10) (.yes (fun vals wr hS hd g b e => by cases e; exact hd 5 (by decide +kernel)) ?_) (.cons (k := 11) (.plain rfl ?_) (.cons (k := 12) (.plain rfl ?_) (.cons (k := 13) (.yes (fun vals wr hS hd g b e => by cases e; exact hd 12 (by decide +kernel)) ?_) (.cons (k := 14) (.yes (fun vals wr hS hd g b e => by cases e; exact hd 12 (by decide +kernel)) ?_) (.cons (k := 15) (.yes (fun vals wr hS hd g b e => by cases e; exact hd 12 (by decide +kernel)) ?_) (.cons (k := 16) (.yes (fun vals wr hS hd g b e => by cases e; exact hd 12 (by decide +kernel)) ?_) (.cons (k := 17) (.plain rfl ?_) (.cons (k := 18) (.plain rfl ?_) (.cons (k := 19) (.yes (fun vals wr hS hd g b e => by cases e; exact hd 18 (by decide +kernel)) ?_) (.cons (k := 20) (.yes (fun vals wr hS hd g b e => by cases e; exact hd 18 (by decide +kernel)) ?_) (.cons (k := 21) (.yes (fun vals wr hS hd g b e => by cases e; exact hd 18 (by decide +kernel)) ?_) (.cons (k := 22) (.yes (fun vals wr hS hd g b e => by cases e; exact hd 18 (by decide +kernel)) ?_) (.cons (k := 23) (.plain rfl ?_) (.nil))))))))))))))))))))))))
   all_goals intro vals wr hS hd KC hK
   all_goals (show Oper.wp _ _ _ _ _ _; dsimp only)
   · have z0 := (h_rp.below hS).c0
     have z1 := (h_rp.below hS).c1
     have z2 := (h_rp.below hS).c2
     go_simp
     refine hK _ _ rfl (Below.refl _ _) (by first | rfl | simp) (fun h => by cases h)
   · have d0 : vals 0 = _ := hd 0 (by decide +kernel)
     rw [d0]
     go_simp
     go_at_call 18
     with_reducible refine (dExact_c (h_p.below hS) (by decide) (HTab.out.below hS) SX HSX.out).mono ?_
     rintro e w2 ⟨rfl, bn_r⟩
     refine hK _ _ rfl bn_r rfl (fun h => by cases h)
   · have z0 := (h_ra.below hS).c0
     have z1 := (h_ra.below hS).c1
     have z2 := (h_ra.below hS).c2
     go_simp
     refine hK _ _ rfl (Below.refl _ _) (by first | rfl | simp) (fun h => by cases h)
   · have d2 : vals 2 = _ := hd 2 (by decide +kernel)
     rw [d2]
     go_simp
     go_at_call 19
     with_reducible refine (refDExact_c (h_a.below hS) (by decide) SX HSX.out).mono ?_
     rintro e w2 ⟨rfl, bn_r⟩
     refine hK _ _ rfl bn_r rfl (fun h => by cases h)
   · have d1 : vals 1 = _ := hd 1 (by decide +kernel)
     have d3 : vals 3 = _ := hd 3 (by decide +kernel)
     rw [d1, d3]
     go_simp
     refine hK _ _ rfl (Below.refl _ _) (by first | rfl | simp) (fun h => by cases h)
   · have d4 : vals 4 = _ := hd 4 (by decide +kernel)
     rw [d4]
     go_simp
     refine hK _ _ rfl (Below.refl _ _) (by first | rfl | simp) (fun h => by cases h)
   · have z0 := (h_rr.below hS).c0
     have z1 := (h_rr.below hS).c1
     have z2 := (h_rr.below hS).c2
     go_simp
     refine hK _ _ rfl (Below.refl _ _) (by first | rfl | simp) (fun h => by cases h)
   · go_simp
     refine hK _ _ rfl (Below.refl _ _) (by first | rfl | simp) (fun h => by cases h)
   · have d7 : vals 7 = _ := hd 7 (by decide +kernel)
     rw [d7]
     have z0 := (h_rgg.below hS).c0
     have z1 := (h_rgg.below hS).c1
     have z2 := (h_rgg.below hS).c2
     go_simp
     refine hK _ _ rfl (Below.refl _ _) (by first | rfl | simp) (fun h => by cases h)
   · have d6 : vals 6 = _ := hd 6 (by decide +kernel)
     have d8 : vals 8 = _ := hd 8 (by decide +kernel)
     rw [d6, d8]
     go_simp
     go_at_call 20
     with_reducible refine (keepRat_c (h_r.below hS) (h_gg.below hS) (by decide) (by decide) true (keepQ rfl)).mono ?_
     rintro e w2 ⟨rfl, bn_r⟩
     refine hK _ _ rfl bn_r rfl (fun h => by cases h)
   · have d9 : vals 9 = _ := hd 9 (by decide +kernel)
     rw [d9]
     go_simp
     refine hK _ _ rfl (Below.refl _ _) (by first | rfl | simp) (fun h => by cases h)
   · have d5 : vals 5 = _ := hd 5 (by decide +kernel)
     have d10 : vals 10 = _ := hd 10 (by decide +kernel)
     rw [d5, d10]
     go_simp
     refine hK _ _ rfl (Below.refl _ _) (by first | rfl | simp) (fun h => by cases h)
   · have d11 : vals 11 = _ := hd 11 (by decide +kernel)
     rw [d11]
     go_simp
     refine hK _ _ rfl (Below.refl _ _) (by first | rfl | simp) (fun h => by cases h)
   · go_simp
     refine hK _ _ rfl (Below.refl _ _) (by first | rfl | simp) (fun h => by cases h)
   · go_simp
     refine hK _ _ rfl (Below.refl _ _) (by first | rfl | simp) (fun h => by cases h)
   · have d14 : vals 14 = _ := hd 14 (by decide +kernel)
     rw [d14]
     have z0 := (h_rgg.below hS).c3
     go_simp
     refine hK _ _ rfl (Below.refl _ _) (by first | rfl | simp) (fun h => by cases h)
   · have d13 : vals 13 = _ := hd 13 (by decide +kernel)
     have d15 : vals 15 = _ := hd 15 (by decide +kernel)
     rw [d13, d15]
     go_simp
     refine hK _ _ rfl (Below.refl _ _) (by first | rfl | simp) (fun h => by cases h)
   · have d12 : vals 12 = _ := hd 12 (by decide +kernel)
     have d16 : vals 16 = _ := hd 16 (by decide +kernel)
     rw [d12, d16]
     go_simp
     refine hK _ _ rfl (Below.refl _ _) (by first | rfl | simp) (fun h => by cases h)
   · have d17 : vals 17 = _ := hd 17 (by decide +kernel)
     rw [d17]
     go_simp
     refine hK _ _ rfl (Below.refl _ _) (by first | rfl | simp) (fun h => by cases h)
   · have z0 := (h_rp.below hS).c0
     have z1 := (h_rp.below hS).c1
     have z2 := (h_rp.below hS).c2
     go_simp
     refine hK _ _ rfl (Below.refl _ _) (by first | rfl | simp) (fun h => by cases h)
   · have z0 := (h_ra.below hS).c0
     have z1 := (h_ra.below hS).c1
     have z2 := (h_ra.below hS).c2
     go_simp
     refine hK _ _ rfl (Below.refl _ _) (by first | rfl | simp) (fun h => by cases h)
   · have d19 : vals 19 = _ := hd 19 (by decide +kernel)
     have d20 : vals 20 = _ := hd 20 (by decide +kernel)
     rw [d19, d20]
     go_simp
     go_at_call 20
     with_reducible refine (keepRat_c (h_p.below hS) (h_a.below hS) (by decide) (by decide) true (keep_self3 _ _ _)).mono ?_
     rintro e w2 ⟨rfl, bn_r⟩
     refine hK _ _ rfl bn_r rfl (fun h => by cases h)
   · have d21 : vals 21 = _ := hd 21 (by decide +kernel)
     rw [d21]
     go_simp
     refine hK _ _ rfl (Below.refl _ _) (by first | rfl | simp) (fun h => by cases h)
   · have d18 : vals 18 = _ := hd 18 (by decide +kernel)
     have d22 : vals 22 = _ := hd 22 (by decide +kernel)
     rw [d18, d22]
     go_simp
     refine hK _ _ rfl (Below.refl _ _) (by first | rfl | simp) (fun h => by cases h)
  case hfin26 =>
   intro vals wr hS hP hne
   have ez_23 : vals 23 = _ := hP 23 (by decide)
   try dsimp only
   rw [ez_23]
   refine wpAny_done (by kernel_rfl) ?_ _
   generalize wr = w32 at *
   have bn := hS
   clear hS ez_23
   replace h_a := h_a.below bn
   replace h_ra := h_ra.below bn
   replace h_p := h_p.below bn
   replace h_rp := h_rp.below bn
   replace h_r := h_r.below bn
   replace h_rr := h_rr.below bn
   replace h_gg := h_gg.below bn
   replace h_rgg := h_rgg.below bn
   replace h_v := h_v.below bn
   replace h_rv := h_rv.below bn
   replace HTab := Lib.hid (HTab.out.below bn)
   replace bw := below_two bw bn
   clear bn
   have c_a0 := h_ra.c0
   have c_a1 := h_ra.c1
   have c_a2 := h_ra.c2
   go_wp2_with fail
   clear c_a0 c_a1 c_a2
   refine (refDMay_c h_a (by decide) (N : Int) true HMAY.out).mono ?_
   rintro e w33 ⟨rfl, bn⟩
   replace h_a := h_a.below bn
   replace h_ra := h_ra.below bn
   replace h_p := h_p.below bn
   replace h_rp := h_rp.below bn
   replace h_r := h_r.below bn
   replace h_rr := h_rr.below bn
   replace h_gg := h_gg.below bn
   replace h_rgg := h_rgg.below bn
   replace h_v := h_v.below bn
   replace h_rv := h_rv.below bn
   replace HTab := Lib.hid (HTab.out.below bn)
   replace bw := below_two bw bn
   clear bn
   go_wp2
   generalize w33 = wS at *
   refine region_freeg 45 1 [128, 129, 130, 131, 132, 133, 134, 135, 136, 137, 138, 139, 140, 141, 142, 143, 144, 145, 146, 147, 148, 149, 150, 151, 152, 153, 154, 155, 156, 157, 158, 159, 160, 161, 162, 163, 164, 165, 166, 167, 168, 169, 170, 171, 172] ?aF27 (fun wx => Below wS.heap.size wS wx) (fun k vv wx => match k with
    | 0 => vv = .int .i64 0
    | 1 => vv = .bool true
    | 2 => vv = .bool true
    | 3 => vv = .int .i64 0
    | 4 => vv = .bool true
    | 5 => vv = .bool true
    | 6 => vv = .bool true
    | 7 => vv = .int .i64 0
    | 8 => vv = .bool true
    | 9 => vv = .bool true
    | 10 => vv = .bool true
    | 11 => vv = .int .i64 0
    | 12 => vv = .bool true
    | 13 => vv = .bool true
    | 14 => vv = .bool true
    | 15 => vv = .string SD
    | 16 => vv = .agg #[.bool (sg (oTop (some q))), .slice A_a n_a c_a, .slice B_a m_a d_a]
    | 17 => vv = .int .i64 (N : Int)
    | 18 => vv = .string SD
    | 19 => vv = .bool true
    | 20 => vv = .bool true
    | 21 => vv = .bool true
    | 22 => vv = .string SU
    | 23 => vv = .agg #[.bool (sg (oTop (some q))), .slice A_a n_a c_a, .slice B_a m_a d_a]
    | 24 => vv = .int .i64 (N : Int)
    | 25 => vv = .string SU
    | 26 => vv = .bool true
    | 27 => vv = .bool true
    | 28 => vv = .bool true
    | 29 => vv = .string SM
    | 30 => vv = .agg #[.bool (sg (oTop (some q))), .slice A_a n_a c_a, .slice B_a m_a d_a]
    | 31 => vv = .int .i64 (N : Int)
    | 32 => vv = .string SM
    | 33 => vv = .bool true
    | 34 => vv = .bool true
    | 35 => vv = .bool true
    | 36 => vv = .agg #[.bool (sg zf), .slice A_v n_v c_v]
    | 37 => vv = .agg #[.bool (sg (oTop (some q))), .slice A_a n_a c_a, .slice B_a m_a d_a]
    | 38 => vv = .int .i64 (N : Int)
    | 39 => ∃ (e0 : Option Addr) (e1 : Nat) (e2 : Nat), vv = .agg #[.bool (sg zf), .slice e0 e1 e2] ∧ ZZ wx (sg zf) e0 e1 e2 (limbs zf.natAbs) zf 74
    | 40 => vv = .bool true
    | 41 => vv = .bool true
    | 42 => vv = .bool true
    | 43 => vv = .bool true
    | _ => vv = .bool true)
    (fun k => false) (by kernel_rfl) ?haF27 rfl (by kernel_rfl) (by kernel_rfl) (fun _ _ _ _ _ h => h) ?hSb27 ?hPb27 ?hS27 ?hop27 ?hfin27
   case haF27 =>
    intro vals
    simp only [fillAll, List.getElem?_cons_zero, List.getElem?_cons_succ, Act.put, List.setIfInBounds_toArray, List.set_cons_zero, List.set_cons_succ]
    exact rfl
   case hSb27 => exact fun wx w2 hb hS => below_two hS hb
   case hPb27 =>
    intro k v wa wb hb h
    match k, h with
    | 0, h => exact h
    | 1, h => exact h
    | 2, h => exact h
    | 3, h => exact h
    | 4, h => exact h
    | 5, h => exact h
    | 6, h => exact h
    | 7, h => exact h
    | 8, h => exact h
    | 9, h => exact h
    | 10, h => exact h
    | 11, h => exact h
    | 12, h => exact h
    | 13, h => exact h
    | 14, h => exact h
    | 15, h => exact h
    | 16, h => exact h
    | 17, h => exact h
    | 18, h => exact h
    | 19, h => exact h
    | 20, h => exact h
    | 21, h => exact h
    | 22, h => exact h
    | 23, h => exact h
    | 24, h => exact h
    | 25, h => exact h
    | 26, h => exact h
    | 27, h => exact h
    | 28, h => exact h
    | 29, h => exact h
    | 30, h => exact h
    | 31, h => exact h
    | 32, h => exact h
    | 33, h => exact h
    | 34, h => exact h
    | 35, h => exact h
    | 36, h => exact h
    | 37, h => exact h
    | 38, h => exact h
    | 39, ⟨e0, e1, e2, h1, g0⟩ => exact ⟨e0, e1, e2, h1, g0.below hb⟩
    | 40, h => exact h
    | 41, h => exact h
    | 42, h => exact h
    | 43, h => exact h
    | _ + 44, h => exact h
   case hS27 => exact (Below.refl _ _).drew
   case hop27 =>
    refine .cons (k := 0) (.plain rfl ?_) (.cons (k := 1) (.plain rfl ?_) (.cons (k := 2) (.plain rfl ?_) (.cons (k := 3) (.yes (fun vals wr hS hd g b e => by cases e; exact hd 2 (by decide +kernel)) ?_) (.cons (k := 4) (.yes (fun vals wr hS hd g b e => by cases e; exact hd 2 (by decide +kernel)) ?_) (.cons (k := 5) (.plain rfl ?_) (.cons (k := 6) (.plain rfl ?_) (.cons (k := 7) (.yes (fun vals wr hS hd g b e => by cases e; exact hd 6 (by decide +kernel)) ?_) (.cons (k := 8) (.yes (fun vals wr hS hd g b e => by cases e; exact hd 6 (by decide +kernel)) ?_) (.cons (k := 9) (.plain rfl ?_) (.cons (k := 10) (.plain rfl ?_) (.cons (k := 11) (.yes (fun vals wr hS hd g b e => by cases e; exact hd 10 (by decide +kernel)) ?_) (.cons (k := 12) (.yes (fun vals wr hS hd g b e => by cases e; exact hd 10 (by decide +kernel)) ?_) (.cons (k := 13) (.plain rfl ?_) (.cons (k := 14) (.plain rfl ?_) (.cons (k := 15) (.yes (fun vals wr hS hd g b e => by cases e; exact hd 14 (by decide +kernel)) ?_) (.cons (k := 16) (.yes (fun vals wr hS hd g b e => by cases e; exact hd 14 (by decide +kernel)) ?_) (.cons (k := 17) (.yes (fun vals wr hS hd g b e => by cases e; exact hd 14 (by decide +kernel)) ?_) (.cons (k := 18) (.yes (fun vals wr hS hd g b e => by cases e; exact hd 14 (by decide +kernel)) ?_) (.cons (k := 19) (.yes (fun vals wr hS hd g b e => by cases e; exact hd 14 (by decide +kernel)) ?_) (.cons (k := 20) (.plain rfl ?_) (.cons (k := 21) (.plain rfl ?_) (.cons (k := 22) (.yes (fun vals wr hS hd g b e => by cases e; exact hd 21 (by decide +kernel)) ?_) (.cons (k := 23) (.yes (fun vals wr hS hd g b e => by cases e; exact hd 21 (by decide +kernel)) ?_) (.cons (k := 24) (.yes (fun vals wr hS hd g b e => by cases e; exact hd 21 (by decide +kernel)) ?_) (.cons (k := 25) (.yes (fun vals wr hS hd g b e => by cases e; exact hd 21 (by decide +kernel)) ?_) (.cons (k := 26) (.yes (fun vals wr hS hd g b e => by cases e; exact hd 21 (by decide +kernel)) ?_) (.cons (k := 27) (.plain rfl ?_) (.cons (k := 28) (.plain rfl ?_) (.cons (k := 29) (.yes (fun vals wr hS hd g b e => by cases e; exact hd 28 (by decide +kernel)) ?_) (.cons (k := 30) (.yes (fun vals wr hS hd g b e => by cases e; exact hd 28 (by decide +kernel)) ?_) (.cons (k := 31) (.yes (fun vals wr hS hd g b e => by cases e; exact hd 28 (by decide +kernel)) ?_) (.cons (k := 32) (.yes (fun vals wr hS hd g b e => by cases e; exact hd 28 (by decide +kernel)) ?_) (.cons (k := 33) (.yes (fun vals wr hS hd g b e => by cases e; exact hd 28 (by decide +kernel)) ?_) (.cons (k := 34) (.plain rfl ?_) (.cons (k := 35) (.plain rfl ?_) (.cons (k := 36) (.yes (fun vals wr hS hd g b e => by cases e; exact hd 35 (by decide +kernel)) ?_) (.cons (k := 37) (.yes (fun vals wr hS hd g b e => by cases e; exact hd 35 (by decide +kernel)) ?_) (.cons (k := 38) (.yes (fun vals wr hS hd g b e => by cases e; exact hd 35 (by decide +kernel)) ?_) (.cons (k := 39) (.yes (fun vals wr hS hd g b e => by cases e; exact hd 35 (by decide +kernel)) ?_) (.cons (k := 40) (.yes (fun vals wr hS hd g b e => by cases e; exact hd 35 (by decide +kernel)) ?_) (.cons (k := 41) (.plain rfl ?_) (.cons (k := 42) (.plain rfl ?_) (.cons (k := 43) (.yes (fun vals wr hS hd g b e => by cases e; exact hd 42 (by decide +kernel)) ?_) (.cons (k := 44) (.plain rfl ?_) (.nil)))))))))))))))))))))))))))))))))))))))))))))
    all_goals intro vals wr hS hd KC hK
    all_goals (show Oper.wp _ _ _ _ _ _; dsimp only)
    · go_simp
      refine hK _ _ rfl (Below.refl _ _) (by first | rfl | simp) (fun h => by cases h)
    · have d0 : vals 0 = _ := hd 0 (by decide +kernel)
      rw [d0]
      go_simp
      refine hK _ _ rfl (Below.refl _ _) (by first | rfl | simp) (fun h => by cases h)
    · have d1 : vals 1 = _ := hd 1 (by decide +kernel)
      rw [d1]
      go_simp
      refine hK _ _ rfl (Below.refl _ _) (by first | rfl | simp) (fun h => by cases h)
    · go_simp
      refine hK _ _ rfl (Below.refl _ _) (by first | rfl | simp) (fun h => by cases h)
    · have d3 : vals 3 = _ := hd 3 (by decide +kernel)
      rw [d3]
      go_simp
      refine hK _ _ rfl (Below.refl _ _) (by first | rfl | simp) (fun h => by cases h)
    · have d2 : vals 2 = _ := hd 2 (by decide +kernel)
      have d4 : vals 4 = _ := hd 4 (by decide +kernel)
      rw [d2, d4]
      go_simp
      refine hK _ _ rfl (Below.refl _ _) (by first | rfl | simp) (fun h => by cases h)
    · have d5 : vals 5 = _ := hd 5 (by decide +kernel)
      rw [d5]
      go_simp
      refine hK _ _ rfl (Below.refl _ _) (by first | rfl | simp) (fun h => by cases h)
    · go_simp
      refine hK _ _ rfl (Below.refl _ _) (by first | rfl | simp) (fun h => by cases h)
    · have d7 : vals 7 = _ := hd 7 (by decide +kernel)
      rw [d7]
      go_simp
      refine hK _ _ rfl (Below.refl _ _) (by first | rfl | simp) (fun h => by cases h)
    · have d6 : vals 6 = _ := hd 6 (by decide +kernel)
      have d8 : vals 8 = _ := hd 8 (by decide +kernel)
      rw [d6, d8]
      go_simp
      refine hK _ _ rfl (Below.refl _ _) (by first | rfl | simp) (fun h => by cases h)
    · have d9 : vals 9 = _ := hd 9 (by decide +kernel)
      rw [d9]
      go_simp
      refine hK _ _ rfl (Below.refl _ _) (by first | rfl | simp) (fun h => by cases h)
    · go_simp
      refine hK _ _ rfl (Below.refl _ _) (by first | rfl | simp) (fun h => by cases h)
    · have d11 : vals 11 = _ := hd 11 (by decide +kernel)
      rw [d11]
      go_simp
      refine hK _ _ rfl (Below.refl _ _) (by first | rfl | simp) (fun h => by cases h)
    · have d10 : vals 10 = _ := hd 10 (by decide +kernel)
      have d12 : vals 12 = _ := hd 12 (by decide +kernel)
      rw [d10, d12]
      go_simp
      refine hK _ _ rfl (Below.refl _ _) (by first | rfl | simp) (fun h => by cases h)
    · have d13 : vals 13 = _ := hd 13 (by decide +kernel)
      rw [d13]
      go_simp
      refine hK _ _ rfl (Below.refl _ _) (by first | rfl | simp) (fun h => by cases h)
    · go_simp
      refine hK _ _ rfl (Below.refl _ _) (by first | rfl | simp) (fun h => by cases h)
    · have z0 := (h_ra.below hS).c0
      have z1 := (h_ra.below hS).c1
      have z2 := (h_ra.below hS).c2
      go_simp
      refine hK _ _ rfl (Below.refl _ _) (by first | rfl | simp) (fun h => by cases h)
    · go_simp
      refine hK _ _ rfl (Below.refl _ _) (by first | rfl | simp) (fun h => by cases h)
    · have d16 : vals 16 = _ := hd 16 (by decide +kernel)
      have d17 : vals 17 = _ := hd 17 (by decide +kernel)
      rw [d16, d17]
      go_simp
      go_at_call 22
      with_reducible refine (refDDown_c (h_a.below hS) N hN SD HT_SD.out).mono ?_
      rintro e w2 ⟨rfl, bn_r⟩
      refine hK _ _ rfl bn_r rfl (fun h => by cases h)
    · have d15 : vals 15 = _ := hd 15 (by decide +kernel)
      have d18 : vals 18 = _ := hd 18 (by decide +kernel)
      rw [d15, d18]
      go_simp
      refine hK _ _ rfl (Below.refl _ _) (by first | rfl | simp) (fun h => by cases h)
    · have d14 : vals 14 = _ := hd 14 (by decide +kernel)
      have d19 : vals 19 = _ := hd 19 (by decide +kernel)
      rw [d14, d19]
      go_simp
      refine hK _ _ rfl (Below.refl _ _) (by first | rfl | simp) (fun h => by cases h)
    · have d20 : vals 20 = _ := hd 20 (by decide +kernel)
      rw [d20]
      go_simp
      refine hK _ _ rfl (Below.refl _ _) (by first | rfl | simp) (fun h => by cases h)
    · go_simp
      refine hK _ _ rfl (Below.refl _ _) (by first | rfl | simp) (fun h => by cases h)
    · have z0 := (h_ra.below hS).c0
      have z1 := (h_ra.below hS).c1
      have z2 := (h_ra.below hS).c2
      go_simp
      refine hK _ _ rfl (Below.refl _ _) (by first | rfl | simp) (fun h => by cases h)
    · go_simp
      refine hK _ _ rfl (Below.refl _ _) (by first | rfl | simp) (fun h => by cases h)
    · have d23 : vals 23 = _ := hd 23 (by decide +kernel)
      have d24 : vals 24 = _ := hd 24 (by decide +kernel)
      rw [d23, d24]
      go_simp
      go_at_call 23
      with_reducible refine (refDUp_c (h_a.below hS) N hN SU HT_SU.out).mono ?_
      rintro e w2 ⟨rfl, bn_r⟩
      refine hK _ _ rfl bn_r rfl (fun h => by cases h)
    · have d22 : vals 22 = _ := hd 22 (by decide +kernel)
      have d25 : vals 25 = _ := hd 25 (by decide +kernel)
      rw [d22, d25]
      go_simp
      refine hK _ _ rfl (Below.refl _ _) (by first | rfl | simp) (fun h => by cases h)
    · have d21 : vals 21 = _ := hd 21 (by decide +kernel)
      have d26 : vals 26 = _ := hd 26 (by decide +kernel)
      rw [d21, d26]
      go_simp
      refine hK _ _ rfl (Below.refl _ _) (by first | rfl | simp) (fun h => by cases h)
    · have d27 : vals 27 = _ := hd 27 (by decide +kernel)
      rw [d27]
      go_simp
      refine hK _ _ rfl (Below.refl _ _) (by first | rfl | simp) (fun h => by cases h)
    · go_simp
      refine hK _ _ rfl (Below.refl _ _) (by first | rfl | simp) (fun h => by cases h)
    · have z0 := (h_ra.below hS).c0
      have z1 := (h_ra.below hS).c1
      have z2 := (h_ra.below hS).c2
      go_simp
      refine hK _ _ rfl (Below.refl _ _) (by first | rfl | simp) (fun h => by cases h)
    · go_simp
      refine hK _ _ rfl (Below.refl _ _) (by first | rfl | simp) (fun h => by cases h)
    · have d30 : vals 30 = _ := hd 30 (by decide +kernel)
      have d31 : vals 31 = _ := hd 31 (by decide +kernel)
      rw [d30, d31]
      go_simp
      go_at_call 24
      with_reducible refine (refDNear_c (h_a.below hS) N hN SM HT_SM.out).mono ?_
      rintro e w2 ⟨rfl, bn_r⟩
      refine hK _ _ rfl bn_r rfl (fun h => by cases h)
    · have d29 : vals 29 = _ := hd 29 (by decide +kernel)
      have d32 : vals 32 = _ := hd 32 (by decide +kernel)
      rw [d29, d32]
      go_simp
      refine hK _ _ rfl (Below.refl _ _) (by first | rfl | simp) (fun h => by cases h)
    · have d28 : vals 28 = _ := hd 28 (by decide +kernel)
      have d33 : vals 33 = _ := hd 33 (by decide +kernel)
      rw [d28, d33]
      go_simp
      refine hK _ _ rfl (Below.refl _ _) (by first | rfl | simp) (fun h => by cases h)
    · have d34 : vals 34 = _ := hd 34 (by decide +kernel)
      rw [d34]
      go_simp
      refine hK _ _ rfl (Below.refl _ _) (by first | rfl | simp) (fun h => by cases h)
    · have z0 := (h_rv.below hS).c0
      have z1 := (h_rv.below hS).c1
      go_simp
      refine hK _ _ rfl (Below.refl _ _) (by first | rfl | simp) (fun h => by cases h)
    · have z0 := (h_ra.below hS).c0
      have z1 := (h_ra.below hS).c1
      have z2 := (h_ra.below hS).c2
      go_simp
      refine hK _ _ rfl (Below.refl _ _) (by first | rfl | simp) (fun h => by cases h)
    · go_simp
      refine hK _ _ rfl (Below.refl _ _) (by first | rfl | simp) (fun h => by cases h)
    · have d37 : vals 37 = _ := hd 37 (by decide +kernel)
      have d38 : vals 38 = _ := hd 38 (by decide +kernel)
      rw [d37, d38]
      go_simp
      go_at_call 26
      with_reducible refine (refDFloor_c (h_a.below hS) N hN zf HZF.out).mono ?_
      rintro e w2 ⟨r0, r1, r2, rfl, f0, bn_r⟩
      refine hK _ _ rfl bn_r ⟨_, _, _, rfl, f0⟩ (fun h => by cases h)
    · have d36 : vals 36 = _ := hd 36 (by decide +kernel)
      obtain ⟨A_39_0, n_39_1, n_39_2, d39, h_39_0⟩ := hd 39 (by decide +kernel)
      rw [d36, d39]
      go_simp
      go_at_call 25
      with_reducible refine (keepInt_c (h_v.below hS) h_39_0 (by decide) (by decide) true (zsame rfl)).mono ?_
      rintro e w2 ⟨rfl, bn_r⟩
      refine hK _ _ rfl bn_r rfl (fun h => by cases h)
    · have d35 : vals 35 = _ := hd 35 (by decide +kernel)
      have d40 : vals 40 = _ := hd 40 (by decide +kernel)
      rw [d35, d40]
      go_simp
      refine hK _ _ rfl (Below.refl _ _) (by first | rfl | simp) (fun h => by cases h)
    · have d41 : vals 41 = _ := hd 41 (by decide +kernel)
      rw [d41]
      go_simp
      refine hK _ _ rfl (Below.refl _ _) (by first | rfl | simp) (fun h => by cases h)
    · go_simp
      go_at_call 10
      with_reducible refine (wakes_any _ (HTab.out.below hS)).mono ?_
      rintro e w2 ⟨rfl, bn_r⟩
      refine hK _ _ rfl bn_r rfl (fun h => by cases h)
    · have d42 : vals 42 = _ := hd 42 (by decide +kernel)
      have d43 : vals 43 = _ := hd 43 (by decide +kernel)
      rw [d42, d43]
      go_simp
      refine hK _ _ rfl (Below.refl _ _) (by first | rfl | simp) (fun h => by cases h)
   case hfin27 =>
    intro vals wr hS hP hne
    have ez_44 : vals 44 = _ := hP 44 (by decide)
    have HB := Lib.hid (below_two bw hS)
    try dsimp only
    rw [ez_44]
    refine wpAny_ready (rs := [45]) (by kernel_rfl) (by simp) (AllReady.cons rfl (fun KC hK => ?_) AllReady.nil)
    go_simp
    refine hK _ _ ?_
    clear hK KC
    refine wpAny_done (by kernel_rfl) ?_ _
    go_wp2
    go_ret
    exact ⟨rfl, HB.out⟩
theorem tab_of {W : World} (h : laidMet Tryz.prog Rows.decimalTellsRow.laid W) : Tab W := by
 refine ⟨?_, ?_⟩
 · first | exact powers_tab (laidMet_drop 0 h) (by decide +kernel) | exact powers_tab (laidMet_drop 1 h) (by decide +kernel) | exact powers_tab (laidMet_drop 2 h) (by decide +kernel) | exact powers_tab (laidMet_drop 3 h) (by decide +kernel) | exact powers_tab (laidMet_drop 4 h) (by decide +kernel) | exact powers_tab (laidMet_drop 5 h) (by decide +kernel) | exact powers_tab (laidMet_drop 6 h) (by decide +kernel) | exact powers_tab (laidMet_drop 7 h) (by decide +kernel) | exact powers_tab (laidMet_drop 8 h) (by decide +kernel) | exact powers_tab (laidMet_drop 9 h) (by decide +kernel) | exact powers_tab (laidMet_drop 10 h) (by decide +kernel) | exact powers_tab (laidMet_drop 11 h) (by decide +kernel) | exact powers_tab (laidMet_drop 12 h) (by decide +kernel) | exact powers_tab (laidMet_drop 13 h) (by decide +kernel)
 · first | exact err_tab (laidMet_drop 0 h) (by decide +kernel) | exact err_tab (laidMet_drop 1 h) (by decide +kernel) | exact err_tab (laidMet_drop 2 h) (by decide +kernel) | exact err_tab (laidMet_drop 3 h) (by decide +kernel) | exact err_tab (laidMet_drop 4 h) (by decide +kernel) | exact err_tab (laidMet_drop 5 h) (by decide +kernel) | exact err_tab (laidMet_drop 6 h) (by decide +kernel) | exact err_tab (laidMet_drop 7 h) (by decide +kernel) | exact err_tab (laidMet_drop 8 h) (by decide +kernel) | exact err_tab (laidMet_drop 9 h) (by decide +kernel) | exact err_tab (laidMet_drop 10 h) (by decide +kernel) | exact err_tab (laidMet_drop 11 h) (by decide +kernel) | exact err_tab (laidMet_drop 12 h) (by decide +kernel) | exact err_tab (laidMet_drop 13 h) (by decide +kernel)
set_option maxRecDepth 100000 in
theorem lifted (os : Os) (started : os.Started) (H : Type) (enc : TypeId × Value → H) :
 ReturnsInHanded {} Tryz.checked os 3 .any (fun w args => (Rows.decimalTellsSpec.pre enc Tryz.prog Tryz.f3 [] false w args ∧ laidMetH Tryz.prog Rows.decimalTellsRow.laid w) ∧ sizedMet enc Tryz.prog Tryz.f3 (OpenSpec.ofChange Rows.decimalTellsSpec) false w args)
  (Rows.decimalTellsSpec.post enc Tryz.prog Tryz.f3 false true false false) := by
 refine returnsInHanded_of_change_and (C := Tryz.checked) (X := fun w _ => laidMetH Tryz.prog Rows.decimalTellsRow.laid w) (fun _ _ _ hh h => h.of_heap hh) own started (by kernel_rfl) Tryz.func3
  (ChangeSpec.witness_shaped (enc := enc) (C := Tryz.checked) (os := os) (X := fun w _ => laidMetH Tryz.prog Rows.decimalTellsRow.laid w) false (World.laidAll Tryz.prog os Rows.decimalTellsRow.laid) #[.agg #[.bool false, .slice none 0 0, .slice none 0 0], .int .i64 0, .string ⟨#[]⟩] 8 (World.laidAll_os _ _ _)
    (World.shaped_of_ZipB (by kernel_rfl) (by kernel_rfl)) (by kernel_rfl) (by kernel_rfl) (by kernel_rfl)
    (by rw [MakeChecks.laidMetH_plain _ _ _ (by kernel_rfl)]; exact laidMet_laidAll _ (by kernel_rfl) (by kernel_rfl))) ?_
 intro W base args ds gs before hval0 hW _ _ hL _
 have hval : ∀ (j : Nat) t v, Tryz.f3.params[j]? = some t → args[j]? = some v → Value.okWide Tryz.prog W .any base t v := hval0
 have hW' := hW
 obtain ⟨p, q, hA0, hV, rfl, hfz, hnd⟩ := hW
 have hA : DataW.TrodAll enc Tryz.prog W 0 (fun _ => true) true Tryz.f3.params.toList args.toList ds p := hA0
 rw [Tryz.params3] at hA hval
 obtain ⟨v0, vs0, d0, ds0, p0, q0, hargs, rfl, rfl, h0, r0⟩ := trodAll_cons hA
 obtain ⟨v1, vs1, d1, ds1, p1, q1, rfl, rfl, rfl, h1, r1⟩ := trodAll_cons r0
 obtain ⟨v2, vs2, d2, ds2, p2, q2, rfl, rfl, rfl, h2, r2⟩ := trodAll_cons r1
 obtain ⟨rfl, rfl, rfl⟩ := trodAll_nil r2
 obtain rfl : args = #[v0, v1, v2] := by cases args; simp_all
 obtain ⟨rfl, rfl⟩ := trodVars_none hV
 obtain ⟨b0, a0, len0, cap0, z0, e0, lem0, dap0, y0, rfl, i0, hc0, hm0, k0, kc0, km0⟩ := open_rat (hval 0 27 v0 rfl rfl) h0
 obtain ⟨a1, rfl, rfl, rfl, w1⟩ := open_int Tryz.underlying3 (hval 1 3 v1 rfl rfl) h1
 obtain ⟨a2, rfl, rfl, rfl, w2⟩ := Go.ChangeMaps.open_string Tryz.underlying9 (hval 2 9 v2 rfl rfl) h2
 clear hA0 hval0
 simp only [List.append_nil] at hW'
 rw [MakeChecks.laidMetH_plain _ _ _ (by kernel_rfl)] at hL
 refine (walk b0 a0 len0 cap0 z0 e0 lem0 dap0 y0 a1 a2 W i0 hc0 hm0 k0 kc0 km0 w1 w2 (tab_of hL)).mono fun e W' ⟨he, bel⟩ => ?_
 subst he
 exact ⟨_, rfl, _, _, _, [], _, [], hW', trodAll_mk1 (shut_bool Tryz.underlying4 _), (trodAll_cons_mk (Below.trod laidOut (by kernel_rfl) (of_decide_eq_true (by kernel_rfl)) h0 bel (places_lt h0)) (trodAll_cons_mk (shut_int Tryz.underlying3 w1) (trodAll_cons_mk (Go.ChangeMaps.shut_string Tryz.underlying9 w2) trodAll_mk0))), rfl, bel.frame _, fun h => by cases h⟩
theorem over : Rows.decimalTellsRow.holds Tryz.pinned (OpenSpec.ofChange Rows.decimalTellsSpec) :=
 OpenClaim.holds_of_wide 3 Tryz.f3 rfl rfl rfl rfl rfl rfl rfl ⟨rfl, rfl, rfl, rfl, rfl⟩ rfl rfl rfl rfl rfl (by kernel_rfl) Tryz.func3 (by kernel_rfl)
  (of_decide_eq_true (by kernel_rfl)) (by unfold Func.isWrapper; first | (rw [if_pos (by decide +kernel)]; kernel_rfl) | (rw [if_neg (by decide +kernel)]; exact ⟨rfl, rfl⟩))
  (fun os started H enc _ => lifted os started H enc)
theorem proved : Rows.DecimalTellsCardSaid :=
 Claim7.holds_tied_plain_at .later [] Rows.decimalTellsCard.laidKinds true Rows.decimalTellsCard.stood.harness Rows.decimalTellsCard.stood.looks
  over (fun _ h => by cases h) (by kernel_rfl) (fun _ h => by cases h) decimalTells_row_tie rfl ⟨rfl, rfl⟩ (by kernel_rfl) rfl
  (fun f fn hf hfn => by
    obtain rfl : f = 3 := Option.some.inj ((show Tryz.prog.funcNamed Rows.decimalTellsRow.func = some 3 by kernel_rfl).symm.trans hf) |>.symm
    obtain rfl : fn = Tryz.f3 := (Option.some.inj (Tryz.func3.symm.trans hfn)).symm
    exact ⟨by kernel_rfl, fun j t ht => by
     have hm : t ∈ Tryz.f3.params.toList := by simpa using Array.mem_of_getElem? ht
     have hall : (Tryz.f3.params.toList.all fun u => !Tryz.prog.wantsStandIn u) = true := by kernel_rfl
     exact (show Tryz.prog.wantsStandIn t = false by simpa using List.all_eq_true.1 hall t hm)⟩)
  (by kernel_rfl)
end Go.Proofs.YtjikaojffgjndaaGreatDoor.lawDecimalTells
