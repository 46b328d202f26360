/- Of any two rational numbers: the number of a number's exact text is it; two have one text just if they are one. Condition: the listed tables. -/
import Derived.Test.YtjikaojffgjndaaGreatDoorM11
import Derived.Test.YtjikaojffgjndaaGreatDoorCards
import Derived.Test.YtjikaojffgjndaaGreatDoorTie
import Derived.ChangeMaps5
import Derived.Lay
import Derived.SevenTiedAt
/- What the reference of layer 10 answers (May, Exact), as contracts over memory. Conditions: sizes of at most so many limbs. -/
namespace Go.Proofs.YtjikaojffgjndaaGreatDoor
open Go.RowKit Limb
set_option linter.unusedVariables false
theorem cmp_one {d : Nat} (h0 : d ≠ 0) (h : d ≠ 1) : cmpI d 1 = 1 := cmpI_gt (by omega)
theorem cmp_same (d : Nat) : cmpI d d = 0 := cmpI_eq d
theorem zT_len_le (x : Int) : (zT x).length ≤ (decT x.natAbs).length + 1 := by
 unfold zT
 split
 · simp
 · omega
theorem ex_sizes {q : Rat} (h : fitsQ q = true) {T1 T2 : ByteArray} (h1 : strOf (zT q.num) = T1) (h2 : strOf (decT q.den) = T2) : T1.size ≤ 1000 ∧ T2.size ≤ 1000 := by
 simp only [fitsQ, Bool.and_eq_true, decide_eq_true_eq] at h
 have a := decT_len_limbs h.1
 have b := decT_len_limbs h.2
 have c := zT_len_le q.num
 rw [← h1, ← h2, size_strOf, size_strOf]
 omega
theorem one_lit : limbs 1 = [1] := by simp [limbs, limbsTo]
theorem nn_empty {w : World} {A : Option Addr} {n c a L : Nat} (h : NN w A n c (limbs a) a L) : ((n : Int) == 0) = decide (a = 0) := by
 have hl := h.isN.len
 rw [Bool.eq_iff_iff, beq_iff_eq, decide_eq_true_eq]
 constructor
 · intro e
   have h2 : limbs a = [] := List.eq_nil_of_length_eq_zero (by omega)
   have h3 := h.val
   rw [h2] at h3
   exact h3.symm
 · intro e
   subst e
   rw [limbs_zero] at hl
   simp at hl
   omega
section
variable {w : World} {s s' : Bool} {A B A' B' : Option Addr} {n c m d n' c' m' d' : Nat} {xs ys xs' ys' : List Nat} {x y : Int} {a b L L' : Nat}
set_option maxHeartbeats 4000000 in
set_option maxRecDepth 100000 in
theorem refDMay_c {o : Option Rat} (hx : QQ w s A n c xs B m d ys o L) (h1 : L ≤ 1000000) (p : Int) (v : Bool) (hv : (o.isSome && (decide (0 ≤ p) && decide (p ≤ 60))) = v) :
 Calls Tryz.prog 21 #[.agg #[.bool s, .slice A n c, .slice B m d], .int .i64 p] w fun e w' => e = .returned (.bool v) ∧ Below w.heap.size w w' := by
 have b0 := below_new w (.cells #[Value.bool s, Value.slice A n c, Value.slice B m d] 27)
 have HW := Lib.hid b0
 have HQ := Lib.hid (hx.below b0)
 have HR0 := Lib.hid (row3_new w 27 (.bool s) (.slice A n c) (.slice B m d))
 clear b0 hx
 cases o with
 | none =>
  obtain rfl : v = false := by rw [← hv]; rfl
  clear hv
  go_enter Tryz.func21, Tryz.ntmps21
  go_wp2_with fail
  generalize w.alloc (.cells #[Value.bool s, Value.slice A n c, Value.slice B m d] 27) = w1 at *
  refine (refGood_c HQ.out (by omega) false rfl).mono ?_
  rintro e w2 ⟨rfl, bn⟩
  replace HQ := Lib.hid (HQ.out.below bn)
  replace HR0 := Lib.hid (HR0.out.below bn)
  replace HW := Lib.hid (below_two HW.out bn)
  clear bn
  go_wp2
  go_ret
  exact ⟨rfl, HW.out⟩
 | some q =>
  have hv2 : (decide (0 ≤ p) && decide (p ≤ 60)) = v := hv
  clear hv
  by_cases h0 : 0 ≤ p
  · by_cases h6 : p ≤ 60
    · obtain rfl : v = true := by rw [← hv2, decide_eq_true h0, decide_eq_true h6]; rfl
      clear hv2
      go_enter Tryz.func21, Tryz.ntmps21
      go_wp2_with fail
      generalize w.alloc (.cells #[Value.bool s, Value.slice A n c, Value.slice B m d] 27) = w1 at *
      refine (refGood_c HQ.out (by omega) true rfl).mono ?_
      rintro e w2 ⟨rfl, bn⟩
      replace HQ := Lib.hid (HQ.out.below bn)
      replace HR0 := Lib.hid (HR0.out.below bn)
      replace HW := Lib.hid (below_two HW.out bn)
      clear bn
      go_wp2
      go_ret
      exact ⟨rfl, HW.out⟩
    · obtain rfl : v = false := by rw [← hv2, decide_eq_false h6, Bool.and_false]
      clear hv2
      go_enter Tryz.func21, Tryz.ntmps21
      go_wp2_with fail
      generalize w.alloc (.cells #[Value.bool s, Value.slice A n c, Value.slice B m d] 27) = w1 at *
      refine (refGood_c HQ.out (by omega) true rfl).mono ?_
      rintro e w2 ⟨rfl, bn⟩
      replace HQ := Lib.hid (HQ.out.below bn)
      replace HR0 := Lib.hid (HR0.out.below bn)
      replace HW := Lib.hid (below_two HW.out bn)
      clear bn
      go_wp2
      go_ret
      exact ⟨by rw [show decide (p ≤ 60) = false from decide_eq_false (Int.not_le.2 h6)]; rfl, HW.out⟩
  · obtain rfl : v = false := by rw [← hv2, decide_eq_false h0, Bool.false_and]
    clear hv2
    go_enter Tryz.func21, Tryz.ntmps21
    go_wp2_with fail
    generalize w.alloc (.cells #[Value.bool s, Value.slice A n c, Value.slice B m d] 27) = w1 at *
    refine (refGood_c HQ.out (by omega) true rfl).mono ?_
    rintro e w2 ⟨rfl, bn⟩
    replace HQ := Lib.hid (HQ.out.below bn)
    replace HR0 := Lib.hid (HR0.out.below bn)
    replace HW := Lib.hid (below_two HW.out bn)
    clear bn
    go_wp2
    go_ret
    exact ⟨rfl, HW.out⟩
set_option maxHeartbeats 4000000 in
set_option maxRecDepth 100000 in
theorem refDExact_c {o : Option Rat} (hx : QQ w s A n c xs B m d ys o L) (h1 : L ≤ 1000000) (S : ByteArray) (hS : strOf (exO o) = S) :
 Calls Tryz.prog 19 #[.agg #[.bool s, .slice A n c, .slice B m d]] w fun e w' => e = .returned (.string S) ∧ Below w.heap.size w w' := by
 have b0 := below_new w (.cells #[Value.bool s, Value.slice A n c, Value.slice B m d] 27)
 have HW := Lib.hid b0
 have HQ := Lib.hid (hx.below b0)
 have HR0 := Lib.hid (row3_new w 27 (.bool s) (.slice A n c) (.slice B m d))
 clear b0 hx
 cases o with
 | none =>
  have HS := Lib.hid hS
  clear hS
  go_enter Tryz.func19, Tryz.ntmps19
  go_wp2_with fail
  generalize w.alloc (.cells #[Value.bool s, Value.slice A n c, Value.slice B m d] 27) = w1 at *
  refine (refGood_c HQ.out (by omega) false rfl).mono ?_
  rintro e w2 ⟨rfl, bn⟩
  replace HQ := Lib.hid (HQ.out.below bn)
  replace HR0 := Lib.hid (HR0.out.below bn)
  replace HW := Lib.hid (below_two HW.out bn)
  clear bn
  go_wp2
  go_ret
  exact ⟨by rw [← HS.out]; rfl, HW.out⟩
 | some q =>
  have HS : RowKit.Hid (strOf (exO (Option.some q)) = S) := hS
  clear hS
  obtain ⟨T1, hT1⟩ : ∃ T, strOf (zT q.num) = T := ⟨_, rfl⟩
  have HT1 := Lib.hid hT1
  clear hT1
  by_cases hd : q.den = 1
  · have hS1 : RowKit.Hid (T1 = S) := by
     show _ = _
     rw [← HT1.out, ← HS.out]; show _ = strOf (exT q); unfold exT; rw [if_pos hd, List.append_nil]
    have HC : RowKit.Hid (cmpI q.den 1 = 0) := by show _ = _; rw [hd]; exact cmp_same 1
    clear hd
    go_enter Tryz.func19, Tryz.ntmps19
    go_wp2_with fail
    generalize w.alloc (.cells #[Value.bool s, Value.slice A n c, Value.slice B m d] 27) = w1 at *
    refine (refGood_c HQ.out (by omega) true rfl).mono ?_
    rintro e w2 ⟨rfl, bn⟩
    replace HQ := Lib.hid (HQ.out.below bn)
    replace HR0 := Lib.hid (HR0.out.below bn)
    replace HW := Lib.hid (below_two HW.out bn)
    clear bn
    obtain ⟨-, -, -, -, t5, t6, -⟩ := HQ.out.some
    have HX := Lib.hid t5
    have HY := Lib.hid t6
    clear t5 t6
    have c00 := HR0.out.c0
    have c01 := HR0.out.c1
    go_wp2_with fail
    refine (refIText_c HX.out (by decide) T1 HT1.out).mono ?_
    rintro e w3 ⟨rfl, bn⟩
    clear c00 c01
    replace HX := Lib.hid (HX.out.below bn)
    replace HY := Lib.hid (HY.out.below bn)
    replace HR0 := Lib.hid (HR0.out.below bn)
    replace HW := Lib.hid (below_two HW.out bn)
    clear bn HQ
    have bl := below_new w3 (.cells #[Value.int IntKind.u32 1] 74)
    have HL : RowKit.Hid (NN (w3.alloc (.cells #[Value.int IntKind.u32 1] 74)) (some ⟨w3.heap.size, 0, none⟩) 1 1 (limbs 1) 1 1) := by
     show NN _ _ _ _ _ _ _
     have h := lit_c w3 [1] (by intro x hx; simp at hx; omega) 1 rfl
     rw [one_lit]; exact h
    have c02 := HR0.out.c2
    go_wp2_with fail
    clear c02
    replace HY := Lib.hid (HY.out.below bl)
    replace HR0 := Lib.hid (HR0.out.below bl)
    replace HW := Lib.hid (below_two HW.out bl)
    clear bl
    generalize w3.alloc (.cells #[Value.int IntKind.u32 1] 74) = w4 at *
    generalize w3.heap.size = g3 at *
    refine (refCmp_c HY.out HL.out (by decide) (by decide) 0 HC.out).mono ?_
    rintro e w5 ⟨rfl, rfl⟩
    go_wp2
    go_ret
    exact ⟨by rw [hS1.out]; rfl, HW.out⟩
  · obtain ⟨T2, hT2⟩ : ∃ T, strOf (decT q.den) = T := ⟨_, rfl⟩
    obtain ⟨z1, z2⟩ := ex_sizes HQ.out.some.2.2.2.1 HT1.out hT2
    have HT2 := Lib.hid hT2
    clear hT2
    have hS1 : RowKit.Hid (T1 ++ ((⟨#[47]⟩ : ByteArray) ++ T2) = S) := by
     show _ = _
     rw [← HT1.out, ← HT2.out, ← HS.out]; show _ ++ (strOf [47] ++ _) = strOf (exT q); unfold exT; rw [if_neg hd, strOf_append, strOf_append]; rfl
    have HC : RowKit.Hid (cmpI q.den 1 = 1) := cmp_one q.den_nz hd
    clear hd
    go_enter Tryz.func19, Tryz.ntmps19
    go_wp2_with fail
    generalize w.alloc (.cells #[Value.bool s, Value.slice A n c, Value.slice B m d] 27) = w1 at *
    refine (refGood_c HQ.out (by omega) true rfl).mono ?_
    rintro e w2 ⟨rfl, bn⟩
    replace HQ := Lib.hid (HQ.out.below bn)
    replace HR0 := Lib.hid (HR0.out.below bn)
    replace HW := Lib.hid (below_two HW.out bn)
    clear bn
    obtain ⟨-, -, -, -, t5, t6, -⟩ := HQ.out.some
    have HX := Lib.hid t5
    have HY := Lib.hid t6
    clear t5 t6
    have c00 := HR0.out.c0
    have c01 := HR0.out.c1
    go_wp2_with fail
    refine (refIText_c HX.out (by decide) T1 HT1.out).mono ?_
    rintro e w3 ⟨rfl, bn⟩
    clear c00 c01
    replace HX := Lib.hid (HX.out.below bn)
    replace HY := Lib.hid (HY.out.below bn)
    replace HR0 := Lib.hid (HR0.out.below bn)
    replace HW := Lib.hid (below_two HW.out bn)
    clear bn HQ
    have bl := below_new w3 (.cells #[Value.int IntKind.u32 1] 74)
    have HL : RowKit.Hid (NN (w3.alloc (.cells #[Value.int IntKind.u32 1] 74)) (some ⟨w3.heap.size, 0, none⟩) 1 1 (limbs 1) 1 1) := by
     show NN _ _ _ _ _ _ _
     have h := lit_c w3 [1] (by intro x hx; simp at hx; omega) 1 rfl
     rw [one_lit]; exact h
    have c02 := HR0.out.c2
    go_wp2_with fail
    clear c02
    replace HY := Lib.hid (HY.out.below bl)
    replace HR0 := Lib.hid (HR0.out.below bl)
    replace HW := Lib.hid (below_two HW.out bl)
    clear bl
    generalize w3.alloc (.cells #[Value.int IntKind.u32 1] 74) = w4 at *
    generalize w3.heap.size = g3 at *
    refine (refCmp_c HY.out HL.out (by decide) (by decide) 1 HC.out).mono ?_
    rintro e w5 ⟨rfl, rfl⟩
    have c02 := HR0.out.c2
    go_wp2_with fail
    clear c02
    refine (refText_c HY.out (by decide)).mono ?_
    rintro e w6 ⟨rfl, bn⟩
    rw [HT2.out]
    replace HW := Lib.hid (below_two HW.out bn)
    clear bn
    go_wp2
    go_ret
    exact ⟨by rw [← hS1.out]; rfl, HW.out⟩
end
end Go.Proofs.YtjikaojffgjndaaGreatDoor

/- Of any two rational numbers: the number of a number's exact text is it; two have one text just if they are one. Condition: the listed tables. -/
namespace Go.Proofs.YtjikaojffgjndaaGreatDoor.lawDecimalBack
open Go.ChangeShapes Go.WideShapes Go.ChangeAt Go.RowKit Limb
set_option linter.unusedVariables false
theorem ex_size {q : Rat} (h : fitsQ q = true) {S : ByteArray} (hS : strOf (exO (some q)) = S) : S.size ≤ 3000 := by
 obtain ⟨h1, h2⟩ := ex_sizes h (T1 := strOf (zT q.num)) (T2 := strOf (decT q.den)) rfl rfl
 rw [size_strOf] at h1 h2
 rw [← hS, size_strOf]
 show (exT q).length ≤ _
 unfold exT
 rw [List.length_append]
 split
 · simp; omega
 · rw [List.length_cons]; omega
set_option maxHeartbeats 4000000 in
set_option maxRecDepth 100000 in
theorem walk (g_a : Bool) (A_a : Option Addr) (n_a c_a : Nat) (xs_a : List Nat) (B_a : Option Addr) (m_a d_a : Nat) (ys_a : List Nat) (g_b : Bool) (A_b : Option Addr) (n_b c_b : Nat) (xs_b : List Nat) (B_b : Option Addr) (m_b d_b : Nat) (ys_b : List Nat) (w : World) (i_a : IsN w A_a n_a xs_a) (hc_a : n_a ≤ c_a) (hm_a : c_a ≤ maxLen) (j_a : IsN w B_a m_a ys_a) (kc_a : m_a ≤ d_a) (km_a : d_a ≤ maxLen) (i_b : IsN w A_b n_b xs_b) (hc_b : n_b ≤ c_b) (hm_b : c_b ≤ maxLen) (j_b : IsN w B_b m_b ys_b) (kc_b : m_b ≤ d_b) (km_b : d_b ≤ maxLen) (T : Tab w) :
 Calls Tryz.prog 4 #[.agg #[.bool g_a, .slice A_a n_a c_a, .slice B_a m_a d_a], .agg #[.bool g_b, .slice A_b n_b c_b, .slice B_b m_b d_b]] w fun e w' => e = .returned (.bool true) ∧ Below w.heap.size w w' := by
 have HTab := Lib.hid T
 clear T
 by_cases l_a : n_a ≤ 70 ∧ m_a ≤ 70
 case neg =>
  have T_a : RowKit.Hid ((decide (70 < n_a) || decide (70 < m_a)) = true) := by show _ = _; simp; omega
  have bw := bel_refl w
  have h_ra := row3_new w 27 (.bool g_a) (.slice A_a n_a c_a) (.slice B_a m_a d_a)
  have bn := below_new w (.cells #[Value.bool g_a, Value.slice A_a n_a c_a, Value.slice B_a m_a d_a] 27)
  replace HTab := Lib.hid (HTab.out.below bn)
  replace bw := below_two bw bn
  clear bn
  have h_rb := row3_new (w.alloc (.cells #[Value.bool g_a, Value.slice A_a n_a c_a, Value.slice B_a m_a d_a] 27)) 27 (.bool g_b) (.slice A_b n_b c_b) (.slice B_b m_b d_b)
  have bn := below_new (w.alloc (.cells #[Value.bool g_a, Value.slice A_a n_a c_a, Value.slice B_a m_a d_a] 27)) (.cells #[Value.bool g_b, Value.slice A_b n_b c_b, Value.slice B_b m_b d_b] 27)
  replace h_ra := h_ra.below bn
  replace HTab := Lib.hid (HTab.out.below bn)
  replace bw := below_two bw bn
  clear bn
  simp only [World.size_alloc] at h_rb
  go_enter Tryz.func4, Tryz.ntmps4
  go_wp2_with fail
  generalize (w.alloc (.cells #[Value.bool g_a, Value.slice A_a n_a c_a, Value.slice B_a m_a d_a] 27)).alloc (.cells #[Value.bool g_b, Value.slice A_b n_b c_b, Value.slice B_b m_b d_b] 27) = wP at *
  obtain ⟨q_b, eg⟩ : ∃ g, g = w.heap.size + 1 := ⟨_, rfl⟩
  rw [← eg] at h_rb ⊢
  clear eg
  obtain ⟨q_a, eg⟩ : ∃ g, g = w.heap.size := ⟨_, rfl⟩
  rw [← eg] at h_ra ⊢
  clear eg
  refine (qlong_w g_a A_a B_a n_a c_a m_a d_a true T_a.out _).mono ?_
  rintro e w1 ⟨rfl, bn⟩
  replace h_ra := h_ra.below bn
  replace h_rb := h_rb.below bn
  replace HTab := Lib.hid (HTab.out.below bn)
  replace bw := below_two bw bn
  clear bn
  go_wp2_with fail
  refine (wakes_any _ HTab.out).mono ?_
  rintro e w2 ⟨rfl, bn⟩
  replace h_ra := h_ra.below bn
  replace h_rb := h_rb.below bn
  replace HTab := Lib.hid (HTab.out.below bn)
  replace bw := below_two bw bn
  clear bn
  go_wp2
  go_ret
  exact ⟨rfl, bw⟩
 by_cases l_b : n_b ≤ 70 ∧ m_b ≤ 70
 case neg =>
  have T_a : RowKit.Hid ((decide (70 < n_a) || decide (70 < m_a)) = false) := by show _ = _; simp; omega
  have T_b : RowKit.Hid ((decide (70 < n_b) || decide (70 < m_b)) = true) := by show _ = _; simp; omega
  have bw := bel_refl w
  have h_ra := row3_new w 27 (.bool g_a) (.slice A_a n_a c_a) (.slice B_a m_a d_a)
  have bn := below_new w (.cells #[Value.bool g_a, Value.slice A_a n_a c_a, Value.slice B_a m_a d_a] 27)
  replace HTab := Lib.hid (HTab.out.below bn)
  replace bw := below_two bw bn
  clear bn
  have h_rb := row3_new (w.alloc (.cells #[Value.bool g_a, Value.slice A_a n_a c_a, Value.slice B_a m_a d_a] 27)) 27 (.bool g_b) (.slice A_b n_b c_b) (.slice B_b m_b d_b)
  have bn := below_new (w.alloc (.cells #[Value.bool g_a, Value.slice A_a n_a c_a, Value.slice B_a m_a d_a] 27)) (.cells #[Value.bool g_b, Value.slice A_b n_b c_b, Value.slice B_b m_b d_b] 27)
  replace h_ra := h_ra.below bn
  replace HTab := Lib.hid (HTab.out.below bn)
  replace bw := below_two bw bn
  clear bn
  simp only [World.size_alloc] at h_rb
  go_enter Tryz.func4, Tryz.ntmps4
  go_wp2_with fail
  generalize (w.alloc (.cells #[Value.bool g_a, Value.slice A_a n_a c_a, Value.slice B_a m_a d_a] 27)).alloc (.cells #[Value.bool g_b, Value.slice A_b n_b c_b, Value.slice B_b m_b d_b] 27) = wP at *
  obtain ⟨q_b, eg⟩ : ∃ g, g = w.heap.size + 1 := ⟨_, rfl⟩
  rw [← eg] at h_rb ⊢
  clear eg
  obtain ⟨q_a, eg⟩ : ∃ g, g = w.heap.size := ⟨_, rfl⟩
  rw [← eg] at h_ra ⊢
  clear eg
  refine (qlong_w g_a A_a B_a n_a c_a m_a d_a false T_a.out _).mono ?_
  rintro e w3 ⟨rfl, bn⟩
  replace h_ra := h_ra.below bn
  replace h_rb := h_rb.below bn
  replace HTab := Lib.hid (HTab.out.below bn)
  replace bw := below_two bw bn
  clear bn
  have c_b0 := h_rb.c0
  have c_b1 := h_rb.c1
  have c_b2 := h_rb.c2
  go_wp2_with fail
  clear c_b0 c_b1 c_b2
  refine (qlong_w g_b A_b B_b n_b c_b m_b d_b true T_b.out _).mono ?_
  rintro e w4 ⟨rfl, bn⟩
  replace h_ra := h_ra.below bn
  replace h_rb := h_rb.below bn
  replace HTab := Lib.hid (HTab.out.below bn)
  replace bw := below_two bw bn
  clear bn
  go_wp2_with fail
  refine (wakes_any _ HTab.out).mono ?_
  rintro e w5 ⟨rfl, bn⟩
  replace h_ra := h_ra.below bn
  replace h_rb := h_rb.below bn
  replace HTab := Lib.hid (HTab.out.below bn)
  replace bw := below_two bw bn
  clear bn
  go_wp2
  go_ret
  exact ⟨rfl, bw⟩
 have T_a : RowKit.Hid ((decide (70 < n_a) || decide (70 < m_a)) = false) := by show _ = _; simp; omega
 have h_a := QQ.of (s := g_a) i_a hc_a j_a kc_a l_a.1 l_a.2
 generalize readQ g_a xs_a ys_a = o_a at h_a
 have T_b : RowKit.Hid ((decide (70 < n_b) || decide (70 < m_b)) = false) := by show _ = _; simp; omega
 have h_b := QQ.of (s := g_b) i_b hc_b j_b kc_b l_b.1 l_b.2
 generalize readQ g_b xs_b ys_b = o_b at h_b
 have bw := bel_refl w
 have h_ra := row3_new w 27 (.bool g_a) (.slice A_a n_a c_a) (.slice B_a m_a d_a)
 have bn := below_new w (.cells #[Value.bool g_a, Value.slice A_a n_a c_a, Value.slice B_a m_a d_a] 27)
 replace h_a := h_a.below bn
 replace h_b := h_b.below bn
 replace HTab := Lib.hid (HTab.out.below bn)
 replace bw := below_two bw bn
 clear bn
 have h_rb := row3_new (w.alloc (.cells #[Value.bool g_a, Value.slice A_a n_a c_a, Value.slice B_a m_a d_a] 27)) 27 (.bool g_b) (.slice A_b n_b c_b) (.slice B_b m_b d_b)
 have bn := below_new (w.alloc (.cells #[Value.bool g_a, Value.slice A_a n_a c_a, Value.slice B_a m_a d_a] 27)) (.cells #[Value.bool g_b, Value.slice A_b n_b c_b, Value.slice B_b m_b d_b] 27)
 replace h_a := h_a.below bn
 replace h_b := h_b.below bn
 replace h_ra := h_ra.below bn
 replace HTab := Lib.hid (HTab.out.below bn)
 replace bw := below_two bw bn
 clear bn
 simp only [World.size_alloc] at h_rb
 go_enter Tryz.func4, Tryz.ntmps4
 go_wp2_with fail
 generalize (w.alloc (.cells #[Value.bool g_a, Value.slice A_a n_a c_a, Value.slice B_a m_a d_a] 27)).alloc (.cells #[Value.bool g_b, Value.slice A_b n_b c_b, Value.slice B_b m_b d_b] 27) = wP at *
 obtain ⟨q_b, eg⟩ : ∃ g, g = w.heap.size + 1 := ⟨_, rfl⟩
 rw [← eg] at h_rb ⊢
 clear eg
 obtain ⟨q_a, eg⟩ : ∃ g, g = w.heap.size := ⟨_, rfl⟩
 rw [← eg] at h_ra ⊢
 clear eg
 refine (qlong_w g_a A_a B_a n_a c_a m_a d_a false T_a.out _).mono ?_
 rintro e w6 ⟨rfl, bn⟩
 replace h_a := h_a.below bn
 replace h_b := h_b.below bn
 replace h_ra := h_ra.below bn
 replace h_rb := h_rb.below bn
 replace HTab := Lib.hid (HTab.out.below bn)
 replace bw := below_two bw bn
 clear bn
 have c_b0 := h_rb.c0
 have c_b1 := h_rb.c1
 have c_b2 := h_rb.c2
 go_wp2_with fail
 clear c_b0 c_b1 c_b2
 refine (qlong_w g_b A_b B_b n_b c_b m_b d_b false T_b.out _).mono ?_
 rintro e w7 ⟨rfl, bn⟩
 replace h_a := h_a.below bn
 replace h_b := h_b.below bn
 replace h_ra := h_ra.below bn
 replace h_rb := h_rb.below bn
 replace HTab := Lib.hid (HTab.out.below bn)
 replace bw := below_two bw bn
 clear bn
 have c_a0 := h_ra.c0
 have c_a1 := h_ra.c1
 have c_a2 := h_ra.c2
 go_wp2_with fail
 clear c_a0 c_a1 c_a2
 cases o_a with
 | none =>
  refine (refGood_c h_a (by decide) false rfl).mono ?_
  rintro e w8 ⟨rfl, bn⟩
  replace h_a := h_a.below bn
  replace h_b := h_b.below bn
  replace h_ra := h_ra.below bn
  replace h_rb := h_rb.below bn
  replace HTab := Lib.hid (HTab.out.below bn)
  replace bw := below_two bw bn
  clear bn
  go_wp2_with fail
  refine (wakes_any _ HTab.out).mono ?_
  rintro e w9 ⟨rfl, bn⟩
  replace h_a := h_a.below bn
  replace h_b := h_b.below bn
  replace h_ra := h_ra.below bn
  replace h_rb := h_rb.below bn
  replace HTab := Lib.hid (HTab.out.below bn)
  replace bw := below_two bw bn
  clear bn
  go_wp2
  go_ret
  exact ⟨rfl, bw⟩
 | some z_a =>
  refine (refGood_c h_a (by decide) true rfl).mono ?_
  rintro e w10 ⟨rfl, bn⟩
  replace h_a := h_a.below bn
  replace h_b := h_b.below bn
  replace h_ra := h_ra.below bn
  replace h_rb := h_rb.below bn
  replace HTab := Lib.hid (HTab.out.below bn)
  replace bw := below_two bw bn
  clear bn
  have c_b0 := h_rb.c0
  have c_b1 := h_rb.c1
  have c_b2 := h_rb.c2
  go_wp2_with fail
  clear c_b0 c_b1 c_b2
  cases o_b with
  | none =>
   refine (refGood_c h_b (by decide) false rfl).mono ?_
   rintro e w11 ⟨rfl, bn⟩
   replace h_a := h_a.below bn
   replace h_b := h_b.below bn
   replace h_ra := h_ra.below bn
   replace h_rb := h_rb.below bn
   replace HTab := Lib.hid (HTab.out.below bn)
   replace bw := below_two bw bn
   clear bn
   go_wp2_with fail
   refine (wakes_any _ HTab.out).mono ?_
   rintro e w12 ⟨rfl, bn⟩
   replace h_a := h_a.below bn
   replace h_b := h_b.below bn
   replace h_ra := h_ra.below bn
   replace h_rb := h_rb.below bn
   replace HTab := Lib.hid (HTab.out.below bn)
   replace bw := below_two bw bn
   clear bn
   go_wp2
   go_ret
   exact ⟨rfl, bw⟩
  | some z_b =>
   refine (refGood_c h_b (by decide) true rfl).mono ?_
   rintro e w13 ⟨rfl, bn⟩
   replace h_a := h_a.below bn
   replace h_b := h_b.below bn
   replace h_ra := h_ra.below bn
   replace h_rb := h_rb.below bn
   replace HTab := Lib.hid (HTab.out.below bn)
   replace bw := below_two bw bn
   clear bn
   obtain ⟨t1, t2, t3, t4, -, -, -⟩ := qq_told h_a
   clear i_a j_a
   subst t1
   subst t2
   subst t3
   have FT_a := Lib.hid h_a.some.2.2.2.1
   replace h_a := t4
   clear t4
   obtain ⟨S_a, hS_a⟩ : ∃ S, strOf (exO (some z_a)) = S := ⟨_, rfl⟩
   have HS_a := Lib.hid hS_a
   clear hS_a
   obtain ⟨t1, t2, t3, t4, -, -, -⟩ := qq_told h_b
   clear i_b j_b
   subst t1
   subst t2
   subst t3
   have FT_b := Lib.hid h_b.some.2.2.2.1
   replace h_b := t4
   clear t4
   obtain ⟨S_b, hS_b⟩ : ∃ S, strOf (exO (some z_b)) = S := ⟨_, rfl⟩
   have HS_b := Lib.hid hS_b
   clear hS_b
   have HX : RowKit.Hid (exR (bytesOf S_a) = (some z_a, 0)) := by
    show _ = _
    rw [← HS_a.out, show bytesOf (strOf (exO (some z_a))) = exT z_a from bytesOf_strOf (exT_bytes z_a)]; exact exR_ex FT_a.out
   have hz : S_a.size ≤ 1000000000 := by
    have h1 := ex_size FT_a.out HS_a.out
    omega
   have heq : (S_a.toList == S_b.toList) = decide (z_a = z_b) := by
    rw [← HS_a.out, ← HS_b.out, show strOf (exO (some z_a)) = strOf (exT z_a) from rfl, show strOf (exO (some z_b)) = strOf (exT z_b) from rfl, str_beq (exT_bytes _) (exT_bytes _), decide_eq_decide]
    exact ⟨fun h => exT_inj h, fun h => by rw [h]⟩
   have HEq := Lib.hid heq
   clear heq
   go_wp2
   generalize w13 = wS at *
   refine region_free 4 2 [26, 27, 28, 29] ?aF24 (fun wx => Below wS.heap.size wS wx) (fun k vv wx => match k with
    | 0 => vv = .agg #[.bool (sg (oTop (some z_a))), .slice A_a n_a c_a, .slice B_a m_a d_a]
    | 1 => vv = .string S_a
    | 2 => vv = .agg #[.bool (sg (oTop (some z_b))), .slice A_b n_b c_b, .slice B_b m_b d_b]
    | _ => vv = .string S_b)
    (fun k => false) (by kernel_rfl) ?haF24 rfl (by kernel_rfl) (by kernel_rfl) (fun _ _ _ _ _ h => h) ?hSb24 ?hPb24 ?hS24 ?hop24 ?hfin24
   case haF24 =>
    intro vals
    simp only [fillAll, List.getElem?_cons_zero, List.getElem?_cons_succ, Act.put, List.setIfInBounds_toArray, List.set_cons_zero, List.set_cons_succ]
    exact rfl
   case hSb24 => exact fun wx w2 hb hS => below_two hS hb
   case hPb24 =>
    intro k v wa wb hb h
    match k, h with
    | 0, h => exact h
    | 1, h => exact h
    | 2, h => exact h
    | _ + 3, h => exact h
   case hS24 => exact (Below.refl _ _).drew
   case hop24 =>
    refine .cons (k := 0) ?_ (.cons (k := 1) ?_ (.cons (k := 2) ?_ (.cons (k := 3) ?_ (.nil))))
    all_goals intro vals wr hS hd KC hK
    all_goals (show Oper.wp _ _ _ _ _ _; dsimp only)
    · have z0 := (h_ra.below hS).c0
      have z1 := (h_ra.below hS).c1
      have z2 := (h_ra.below hS).c2
      go_simp
      refine hK _ _ rfl (Below.refl _ _) (by first | rfl | simp) (fun h => by cases h)
    · have d0 : vals 0 = _ := hd 0 (by decide +kernel)
      rw [d0]
      go_simp
      go_at_call 18
      with_reducible refine (dExact_c (h_a.below hS) (by decide) (HTab.out.below hS) S_a HS_a.out).mono ?_
      rintro e w2 ⟨rfl, bn_r⟩
      refine hK _ _ rfl bn_r rfl (fun h => by cases h)
    · have z0 := (h_rb.below hS).c0
      have z1 := (h_rb.below hS).c1
      have z2 := (h_rb.below hS).c2
      go_simp
      refine hK _ _ rfl (Below.refl _ _) (by first | rfl | simp) (fun h => by cases h)
    · have d2 : vals 2 = _ := hd 2 (by decide +kernel)
      rw [d2]
      go_simp
      go_at_call 18
      with_reducible refine (dExact_c (h_b.below hS) (by decide) (HTab.out.below hS) S_b HS_b.out).mono ?_
      rintro e w2 ⟨rfl, bn_r⟩
      refine hK _ _ rfl bn_r rfl (fun h => by cases h)
   case hfin24 =>
    intro vals wr hS hP hne
    have ez_1 : vals 1 = _ := hP 1 (by decide)
    have ez_3 : vals 3 = _ := hP 3 (by decide)
    try dsimp only
    rw [ez_1, ez_3]
    refine wpAny_ready (rs := [4]) (by kernel_rfl) (by simp) (AllReady.cons rfl (fun KC hK => ?_) AllReady.nil)
    go_simp
    refine hK _ _ ?_
    clear hK KC
    refine wpAny_ready (rs := [5]) (by kernel_rfl) (by simp) (AllReady.cons rfl (fun KC hK => ?_) AllReady.nil)
    go_simp
    refine hK _ _ ?_
    clear hK KC
    refine wpAny_done (by kernel_rfl) ?_ _
    generalize wr = w14 at *
    have bn := hS
    clear hS ez_1 ez_3
    replace h_a := h_a.below bn
    replace h_b := h_b.below bn
    replace h_ra := h_ra.below bn
    replace h_rb := h_rb.below bn
    replace HTab := Lib.hid (HTab.out.below bn)
    replace bw := below_two bw bn
    clear bn
    go_wp2_with fail
    refine (dParse_c S_a hz _ HTab.out _ _ HX.out).mono ?_
    rintro e w15 ⟨A_c, n_c, c_c, B_c, m_c, d_c, rfl, h_c, bn⟩
    replace h_a := h_a.below bn
    replace h_b := h_b.below bn
    replace h_ra := h_ra.below bn
    replace h_rb := h_rb.below bn
    replace HTab := Lib.hid (HTab.out.below bn)
    replace bw := below_two bw bn
    clear bn
    have h_rc := row3_new w15 27 (.bool (sg (oTop (some z_a)))) (.slice A_c n_c c_c) (.slice B_c m_c d_c)
    have bn := below_new w15 (.cells #[Value.bool (sg (oTop (some z_a))), Value.slice A_c n_c c_c, Value.slice B_c m_c d_c] 27)
    replace h_a := h_a.below bn
    replace h_b := h_b.below bn
    replace h_ra := h_ra.below bn
    replace h_rb := h_rb.below bn
    replace h_c := h_c.below bn
    replace HTab := Lib.hid (HTab.out.below bn)
    replace bw := below_two bw bn
    clear bn
    have c_c0 := h_rc.c0
    have c_c1 := h_rc.c1
    have c_c2 := h_rc.c2
    have c_a0 := h_ra.c0
    have c_a1 := h_ra.c1
    have c_a2 := h_ra.c2
    go_wp2_with fail
    clear c_c0 c_c1 c_c2 c_a0 c_a1 c_a2
    generalize w15.alloc (.cells #[Value.bool (sg (oTop (some z_a))), Value.slice A_c n_c c_c, Value.slice B_c m_c d_c] 27) = w16 at *
    obtain ⟨q_c, eg⟩ : ∃ g, g = w15.heap.size := ⟨_, rfl⟩
    rw [← eg] at h_rc ⊢
    clear eg
    refine (keepRat_c h_c h_a (by decide) (by decide) true (keepQ rfl)).mono ?_
    rintro e w17 ⟨rfl, bn⟩
    replace h_a := h_a.below bn
    replace h_b := h_b.below bn
    replace h_ra := h_ra.below bn
    replace h_rb := h_rb.below bn
    replace h_c := h_c.below bn
    replace h_rc := h_rc.below bn
    replace HTab := Lib.hid (HTab.out.below bn)
    replace bw := below_two bw bn
    clear bn
    by_cases hab : z_a = z_b
    · subst hab
      have hs := HEq.out
      rw [decide_eq_true rfl] at hs
      have c_a0 := h_ra.c0
      have c_a1 := h_ra.c1
      have c_a2 := h_ra.c2
      have c_b0 := h_rb.c0
      have c_b1 := h_rb.c1
      have c_b2 := h_rb.c2
      go_wp2_with fail
      clear c_a0 c_a1 c_a2 c_b0 c_b1 c_b2
      refine (keepRat_c h_a h_b (by decide) (by decide) true (keepQ rfl)).mono ?_
      rintro e w18 ⟨rfl, bn⟩
      replace h_a := h_a.below bn
      replace h_b := h_b.below bn
      replace h_ra := h_ra.below bn
      replace h_rb := h_rb.below bn
      replace h_c := h_c.below bn
      replace h_rc := h_rc.below bn
      replace HTab := Lib.hid (HTab.out.below bn)
      replace bw := below_two bw bn
      clear bn
      go_wp2_with fail
      refine (wakes_any _ HTab.out).mono ?_
      rintro e w19 ⟨rfl, bn⟩
      replace h_a := h_a.below bn
      replace h_b := h_b.below bn
      replace h_ra := h_ra.below bn
      replace h_rb := h_rb.below bn
      replace h_c := h_c.below bn
      replace h_rc := h_rc.below bn
      replace HTab := Lib.hid (HTab.out.below bn)
      replace bw := below_two bw bn
      clear bn
      go_wp2
      go_ret
      exact ⟨rfl, bw⟩
    · have hs := HEq.out
      rw [decide_eq_false hab] at hs
      have c_a0 := h_ra.c0
      have c_a1 := h_ra.c1
      have c_a2 := h_ra.c2
      have c_b0 := h_rb.c0
      have c_b1 := h_rb.c1
      have c_b2 := h_rb.c2
      go_wp2_with fail
      clear c_a0 c_a1 c_a2 c_b0 c_b1 c_b2
      refine (keepRat_c h_a h_b (by decide) (by decide) false (keepQ_ne hab)).mono ?_
      rintro e w20 ⟨rfl, bn⟩
      replace h_a := h_a.below bn
      replace h_b := h_b.below bn
      replace h_ra := h_ra.below bn
      replace h_rb := h_rb.below bn
      replace h_c := h_c.below bn
      replace h_rc := h_rc.below bn
      replace HTab := Lib.hid (HTab.out.below bn)
      replace bw := below_two bw bn
      clear bn
      go_wp2_with fail
      refine (wakes_any _ HTab.out).mono ?_
      rintro e w21 ⟨rfl, bn⟩
      replace h_a := h_a.below bn
      replace h_b := h_b.below bn
      replace h_ra := h_ra.below bn
      replace h_rb := h_rb.below bn
      replace h_c := h_c.below bn
      replace h_rc := h_rc.below bn
      replace HTab := Lib.hid (HTab.out.below bn)
      replace bw := below_two bw bn
      clear bn
      go_wp2
      go_ret
      exact ⟨rfl, bw⟩
theorem tab_of {W : World} (h : laidMet Tryz.prog Rows.decimalBackRow.laid W) : Tab W := by
 refine ⟨?_, ?_⟩
 · first | exact powers_tab (laidMet_drop 0 h) (by decide +kernel) | exact powers_tab (laidMet_drop 1 h) (by decide +kernel) | exact powers_tab (laidMet_drop 2 h) (by decide +kernel) | exact powers_tab (laidMet_drop 3 h) (by decide +kernel) | exact powers_tab (laidMet_drop 4 h) (by decide +kernel) | exact powers_tab (laidMet_drop 5 h) (by decide +kernel) | exact powers_tab (laidMet_drop 6 h) (by decide +kernel) | exact powers_tab (laidMet_drop 7 h) (by decide +kernel) | exact powers_tab (laidMet_drop 8 h) (by decide +kernel) | exact powers_tab (laidMet_drop 9 h) (by decide +kernel) | exact powers_tab (laidMet_drop 10 h) (by decide +kernel) | exact powers_tab (laidMet_drop 11 h) (by decide +kernel) | exact powers_tab (laidMet_drop 12 h) (by decide +kernel) | exact powers_tab (laidMet_drop 13 h) (by decide +kernel)
 · first | exact err_tab (laidMet_drop 0 h) (by decide +kernel) | exact err_tab (laidMet_drop 1 h) (by decide +kernel) | exact err_tab (laidMet_drop 2 h) (by decide +kernel) | exact err_tab (laidMet_drop 3 h) (by decide +kernel) | exact err_tab (laidMet_drop 4 h) (by decide +kernel) | exact err_tab (laidMet_drop 5 h) (by decide +kernel) | exact err_tab (laidMet_drop 6 h) (by decide +kernel) | exact err_tab (laidMet_drop 7 h) (by decide +kernel) | exact err_tab (laidMet_drop 8 h) (by decide +kernel) | exact err_tab (laidMet_drop 9 h) (by decide +kernel) | exact err_tab (laidMet_drop 10 h) (by decide +kernel) | exact err_tab (laidMet_drop 11 h) (by decide +kernel) | exact err_tab (laidMet_drop 12 h) (by decide +kernel) | exact err_tab (laidMet_drop 13 h) (by decide +kernel)
set_option maxRecDepth 100000 in
theorem lifted (os : Os) (started : os.Started) (H : Type) (enc : TypeId × Value → H) :
 ReturnsInHanded {} Tryz.checked os 4 .any (fun w args => (Rows.decimalBackSpec.pre enc Tryz.prog Tryz.f4 [] false w args ∧ laidMetH Tryz.prog Rows.decimalBackRow.laid w) ∧ sizedMet enc Tryz.prog Tryz.f4 (OpenSpec.ofChange Rows.decimalBackSpec) false w args)
  (Rows.decimalBackSpec.post enc Tryz.prog Tryz.f4 false true false false) := by
 refine returnsInHanded_of_change_and (C := Tryz.checked) (X := fun w _ => laidMetH Tryz.prog Rows.decimalBackRow.laid w) (fun _ _ _ hh h => h.of_heap hh) own started (by kernel_rfl) Tryz.func4
  (ChangeSpec.witness_shaped (enc := enc) (C := Tryz.checked) (os := os) (X := fun w _ => laidMetH Tryz.prog Rows.decimalBackRow.laid w) false (World.laidAll Tryz.prog os Rows.decimalBackRow.laid) #[.agg #[.bool false, .slice none 0 0, .slice none 0 0], .agg #[.bool false, .slice none 0 0, .slice none 0 0]] 8 (World.laidAll_os _ _ _)
    (World.shaped_of_ZipB (by kernel_rfl) (by kernel_rfl)) (by kernel_rfl) (by kernel_rfl) (by kernel_rfl)
    (by rw [MakeChecks.laidMetH_plain _ _ _ (by kernel_rfl)]; exact laidMet_laidAll _ (by kernel_rfl) (by kernel_rfl))) ?_
 intro W base args ds gs before hval0 hW _ _ hL _
 have hval : ∀ (j : Nat) t v, Tryz.f4.params[j]? = some t → args[j]? = some v → Value.okWide Tryz.prog W .any base t v := hval0
 have hW' := hW
 obtain ⟨p, q, hA0, hV, rfl, hfz, hnd⟩ := hW
 have hA : DataW.TrodAll enc Tryz.prog W 0 (fun _ => true) true Tryz.f4.params.toList args.toList ds p := hA0
 rw [Tryz.params4] at hA hval
 obtain ⟨v0, vs0, d0, ds0, p0, q0, hargs, rfl, rfl, h0, r0⟩ := trodAll_cons hA
 obtain ⟨v1, vs1, d1, ds1, p1, q1, rfl, rfl, rfl, h1, r1⟩ := trodAll_cons r0
 obtain ⟨rfl, rfl, rfl⟩ := trodAll_nil r1
 obtain rfl : args = #[v0, v1] := by cases args; simp_all
 obtain ⟨rfl, rfl⟩ := trodVars_none hV
 obtain ⟨b0, a0, len0, cap0, z0, e0, lem0, dap0, y0, rfl, i0, hc0, hm0, k0, kc0, km0⟩ := open_rat (hval 0 27 v0 rfl rfl) h0
 obtain ⟨b1, a1, len1, cap1, z1, e1, lem1, dap1, y1, rfl, i1, hc1, hm1, k1, kc1, km1⟩ := open_rat (hval 1 27 v1 rfl rfl) h1
 clear hA0 hval0
 simp only [List.append_nil] at hW'
 rw [MakeChecks.laidMetH_plain _ _ _ (by kernel_rfl)] at hL
 refine (walk b0 a0 len0 cap0 z0 e0 lem0 dap0 y0 b1 a1 len1 cap1 z1 e1 lem1 dap1 y1 W i0 hc0 hm0 k0 kc0 km0 i1 hc1 hm1 k1 kc1 km1 (tab_of hL)).mono fun e W' ⟨he, bel⟩ => ?_
 subst he
 exact ⟨_, rfl, _, _, _, [], _, [], hW', trodAll_mk1 (shut_bool Tryz.underlying4 _), (trodAll_cons_mk (Below.trod laidOut (by kernel_rfl) (of_decide_eq_true (by kernel_rfl)) h0 bel (places_lt h0)) (trodAll_cons_mk (Below.trod laidOut (by kernel_rfl) (of_decide_eq_true (by kernel_rfl)) h1 bel (places_lt h1)) trodAll_mk0)), rfl, bel.frame _, fun h => by cases h⟩
theorem over : Rows.decimalBackRow.holds Tryz.pinned (OpenSpec.ofChange Rows.decimalBackSpec) :=
 OpenClaim.holds_of_wide 4 Tryz.f4 rfl rfl rfl rfl rfl rfl rfl ⟨rfl, rfl, rfl, rfl, rfl⟩ rfl rfl rfl rfl rfl (by kernel_rfl) Tryz.func4 (by kernel_rfl)
  (of_decide_eq_true (by kernel_rfl)) (by unfold Func.isWrapper; first | (rw [if_pos (by decide +kernel)]; kernel_rfl) | (rw [if_neg (by decide +kernel)]; exact ⟨rfl, rfl⟩))
  (fun os started H enc _ => lifted os started H enc)
theorem proved : Rows.DecimalBackCardSaid :=
 Claim7.holds_tied_plain_at .later [] Rows.decimalBackCard.laidKinds true Rows.decimalBackCard.stood.harness Rows.decimalBackCard.stood.looks
  over (fun _ h => by cases h) (by kernel_rfl) (fun _ h => by cases h) decimalBack_row_tie rfl ⟨rfl, rfl⟩ (by kernel_rfl) rfl
  (fun f fn hf hfn => by
    obtain rfl : f = 4 := Option.some.inj ((show Tryz.prog.funcNamed Rows.decimalBackRow.func = some 4 by kernel_rfl).symm.trans hf) |>.symm
    obtain rfl : fn = Tryz.f4 := (Option.some.inj (Tryz.func4.symm.trans hfn)).symm
    exact ⟨by kernel_rfl, fun j t ht => by
     have hm : t ∈ Tryz.f4.params.toList := by simpa using Array.mem_of_getElem? ht
     have hall : (Tryz.f4.params.toList.all fun u => !Tryz.prog.wantsStandIn u) = true := by kernel_rfl
     exact (show Tryz.prog.wantsStandIn t = false by simpa using List.all_eq_true.1 hall t hm)⟩)
  (by kernel_rfl)
end Go.Proofs.YtjikaojffgjndaaGreatDoor.lawDecimalBack
