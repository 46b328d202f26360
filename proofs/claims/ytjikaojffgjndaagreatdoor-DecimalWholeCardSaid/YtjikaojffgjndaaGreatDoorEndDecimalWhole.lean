/- A whole number is told exactly, with noughts behind the point; with a place more the text of what is not below 0, rounded down, goes on. Condition: the listed tables. -/
import Derived.Test.YtjikaojffgjndaaGreatDoorM11
import Derived.Test.YtjikaojffgjndaaGreatDoorCards
import Derived.Test.YtjikaojffgjndaaGreatDoorTie
import Derived.ChangeMaps5
import Derived.Lay
import Derived.SevenTiedAt
/- What the reference of layer 10 answers (May, Exact), as contracts over memory. Conditions: sizes of at most so many limbs. -/
namespace Go.Proofs.YtjikaojffgjndaaGreatDoor
open Go.RowKit Limb
set_option linter.unusedVariables false
theorem cmp_one {d : Nat} (h0 : d ≠ 0) (h : d ≠ 1) : cmpI d 1 = 1 := cmpI_gt (by omega)
theorem cmp_same (d : Nat) : cmpI d d = 0 := cmpI_eq d
theorem zT_len_le (x : Int) : (zT x).length ≤ (decT x.natAbs).length + 1 := by
 unfold zT
 split
 · simp
 · omega
theorem ex_sizes {q : Rat} (h : fitsQ q = true) {T1 T2 : ByteArray} (h1 : strOf (zT q.num) = T1) (h2 : strOf (decT q.den) = T2) : T1.size ≤ 1000 ∧ T2.size ≤ 1000 := by
 simp only [fitsQ, Bool.and_eq_true, decide_eq_true_eq] at h
 have a := decT_len_limbs h.1
 have b := decT_len_limbs h.2
 have c := zT_len_le q.num
 rw [← h1, ← h2, size_strOf, size_strOf]
 omega
theorem one_lit : limbs 1 = [1] := by simp [limbs, limbsTo]
theorem nn_empty {w : World} {A : Option Addr} {n c a L : Nat} (h : NN w A n c (limbs a) a L) : ((n : Int) == 0) = decide (a = 0) := by
 have hl := h.isN.len
 rw [Bool.eq_iff_iff, beq_iff_eq, decide_eq_true_eq]
 constructor
 · intro e
   have h2 : limbs a = [] := List.eq_nil_of_length_eq_zero (by omega)
   have h3 := h.val
   rw [h2] at h3
   exact h3.symm
 · intro e
   subst e
   rw [limbs_zero] at hl
   simp at hl
   omega
section
variable {w : World} {s s' : Bool} {A B A' B' : Option Addr} {n c m d n' c' m' d' : Nat} {xs ys xs' ys' : List Nat} {x y : Int} {a b L L' : Nat}
set_option maxHeartbeats 4000000 in
set_option maxRecDepth 100000 in
theorem refDMay_c {o : Option Rat} (hx : QQ w s A n c xs B m d ys o L) (h1 : L ≤ 1000000) (p : Int) (v : Bool) (hv : (o.isSome && (decide (0 ≤ p) && decide (p ≤ 60))) = v) :
 Calls Tryz.prog 21 #[.agg #[.bool s, .slice A n c, .slice B m d], .int .i64 p] w fun e w' => e = .returned (.bool v) ∧ Below w.heap.size w w' := by
 have b0 := below_new w (.cells #[Value.bool s, Value.slice A n c, Value.slice B m d] 27)
 have HW := Lib.hid b0
 have HQ := Lib.hid (hx.below b0)
 have HR0 := Lib.hid (row3_new w 27 (.bool s) (.slice A n c) (.slice B m d))
 clear b0 hx
 cases o with
 | none =>
  obtain rfl : v = false := by rw [← hv]; rfl
  clear hv
  go_enter Tryz.func21, Tryz.ntmps21
  go_wp2_with fail
  generalize w.alloc (.cells #[Value.bool s, Value.slice A n c, Value.slice B m d] 27) = w1 at *
  refine (refGood_c HQ.out (by omega) false rfl).mono ?_
  rintro e w2 ⟨rfl, bn⟩
  replace HQ := Lib.hid (HQ.out.below bn)
  replace HR0 := Lib.hid (HR0.out.below bn)
  replace HW := Lib.hid (below_two HW.out bn)
  clear bn
  go_wp2
  go_ret
  exact ⟨rfl, HW.out⟩
 | some q =>
  have hv2 : (decide (0 ≤ p) && decide (p ≤ 60)) = v := hv
  clear hv
  by_cases h0 : 0 ≤ p
  · by_cases h6 : p ≤ 60
    · obtain rfl : v = true := by rw [← hv2, decide_eq_true h0, decide_eq_true h6]; rfl
      clear hv2
      go_enter Tryz.func21, Tryz.ntmps21
      go_wp2_with fail
      generalize w.alloc (.cells #[Value.bool s, Value.slice A n c, Value.slice B m d] 27) = w1 at *
      refine (refGood_c HQ.out (by omega) true rfl).mono ?_
      rintro e w2 ⟨rfl, bn⟩
      replace HQ := Lib.hid (HQ.out.below bn)
      replace HR0 := Lib.hid (HR0.out.below bn)
      replace HW := Lib.hid (below_two HW.out bn)
      clear bn
      go_wp2
      go_ret
      exact ⟨rfl, HW.out⟩
    · obtain rfl : v = false := by rw [← hv2, decide_eq_false h6, Bool.and_false]
      clear hv2
      go_enter Tryz.func21, Tryz.ntmps21
      go_wp2_with fail
      generalize w.alloc (.cells #[Value.bool s, Value.slice A n c, Value.slice B m d] 27) = w1 at *
      refine (refGood_c HQ.out (by omega) true rfl).mono ?_
      rintro e w2 ⟨rfl, bn⟩
      replace HQ := Lib.hid (HQ.out.below bn)
      replace HR0 := Lib.hid (HR0.out.below bn)
      replace HW := Lib.hid (below_two HW.out bn)
      clear bn
      go_wp2
      go_ret
      exact ⟨by rw [show decide (p ≤ 60) = false from decide_eq_false (Int.not_le.2 h6)]; rfl, HW.out⟩
  · obtain rfl : v = false := by rw [← hv2, decide_eq_false h0, Bool.false_and]
    clear hv2
    go_enter Tryz.func21, Tryz.ntmps21
    go_wp2_with fail
    generalize w.alloc (.cells #[Value.bool s, Value.slice A n c, Value.slice B m d] 27) = w1 at *
    refine (refGood_c HQ.out (by omega) true rfl).mono ?_
    rintro e w2 ⟨rfl, bn⟩
    replace HQ := Lib.hid (HQ.out.below bn)
    replace HR0 := Lib.hid (HR0.out.below bn)
    replace HW := Lib.hid (below_two HW.out bn)
    clear bn
    go_wp2
    go_ret
    exact ⟨rfl, HW.out⟩
set_option maxHeartbeats 4000000 in
set_option maxRecDepth 100000 in
theorem refDExact_c {o : Option Rat} (hx : QQ w s A n c xs B m d ys o L) (h1 : L ≤ 1000000) (S : ByteArray) (hS : strOf (exO o) = S) :
 Calls Tryz.prog 19 #[.agg #[.bool s, .slice A n c, .slice B m d]] w fun e w' => e = .returned (.string S) ∧ Below w.heap.size w w' := by
 have b0 := below_new w (.cells #[Value.bool s, Value.slice A n c, Value.slice B m d] 27)
 have HW := Lib.hid b0
 have HQ := Lib.hid (hx.below b0)
 have HR0 := Lib.hid (row3_new w 27 (.bool s) (.slice A n c) (.slice B m d))
 clear b0 hx
 cases o with
 | none =>
  have HS := Lib.hid hS
  clear hS
  go_enter Tryz.func19, Tryz.ntmps19
  go_wp2_with fail
  generalize w.alloc (.cells #[Value.bool s, Value.slice A n c, Value.slice B m d] 27) = w1 at *
  refine (refGood_c HQ.out (by omega) false rfl).mono ?_
  rintro e w2 ⟨rfl, bn⟩
  replace HQ := Lib.hid (HQ.out.below bn)
  replace HR0 := Lib.hid (HR0.out.below bn)
  replace HW := Lib.hid (below_two HW.out bn)
  clear bn
  go_wp2
  go_ret
  exact ⟨by rw [← HS.out]; rfl, HW.out⟩
 | some q =>
  have HS : RowKit.Hid (strOf (exO (Option.some q)) = S) := hS
  clear hS
  obtain ⟨T1, hT1⟩ : ∃ T, strOf (zT q.num) = T := ⟨_, rfl⟩
  have HT1 := Lib.hid hT1
  clear hT1
  by_cases hd : q.den = 1
  · have hS1 : RowKit.Hid (T1 = S) := by
     show _ = _
     rw [← HT1.out, ← HS.out]; show _ = strOf (exT q); unfold exT; rw [if_pos hd, List.append_nil]
    have HC : RowKit.Hid (cmpI q.den 1 = 0) := by show _ = _; rw [hd]; exact cmp_same 1
    clear hd
    go_enter Tryz.func19, Tryz.ntmps19
    go_wp2_with fail
    generalize w.alloc (.cells #[Value.bool s, Value.slice A n c, Value.slice B m d] 27) = w1 at *
    refine (refGood_c HQ.out (by omega) true rfl).mono ?_
    rintro e w2 ⟨rfl, bn⟩
    replace HQ := Lib.hid (HQ.out.below bn)
    replace HR0 := Lib.hid (HR0.out.below bn)
    replace HW := Lib.hid (below_two HW.out bn)
    clear bn
    obtain ⟨-, -, -, -, t5, t6, -⟩ := HQ.out.some
    have HX := Lib.hid t5
    have HY := Lib.hid t6
    clear t5 t6
    have c00 := HR0.out.c0
    have c01 := HR0.out.c1
    go_wp2_with fail
    refine (refIText_c HX.out (by decide) T1 HT1.out).mono ?_
    rintro e w3 ⟨rfl, bn⟩
    clear c00 c01
    replace HX := Lib.hid (HX.out.below bn)
    replace HY := Lib.hid (HY.out.below bn)
    replace HR0 := Lib.hid (HR0.out.below bn)
    replace HW := Lib.hid (below_two HW.out bn)
    clear bn HQ
    have bl := below_new w3 (.cells #[Value.int IntKind.u32 1] 74)
    have HL : RowKit.Hid (NN (w3.alloc (.cells #[Value.int IntKind.u32 1] 74)) (some ⟨w3.heap.size, 0, none⟩) 1 1 (limbs 1) 1 1) := by
     show NN _ _ _ _ _ _ _
     have h := lit_c w3 [1] (by intro x hx; simp at hx; omega) 1 rfl
     rw [one_lit]; exact h
    have c02 := HR0.out.c2
    go_wp2_with fail
    clear c02
    replace HY := Lib.hid (HY.out.below bl)
    replace HR0 := Lib.hid (HR0.out.below bl)
    replace HW := Lib.hid (below_two HW.out bl)
    clear bl
    generalize w3.alloc (.cells #[Value.int IntKind.u32 1] 74) = w4 at *
    generalize w3.heap.size = g3 at *
    refine (refCmp_c HY.out HL.out (by decide) (by decide) 0 HC.out).mono ?_
    rintro e w5 ⟨rfl, rfl⟩
    go_wp2
    go_ret
    exact ⟨by rw [hS1.out]; rfl, HW.out⟩
  · obtain ⟨T2, hT2⟩ : ∃ T, strOf (decT q.den) = T := ⟨_, rfl⟩
    obtain ⟨z1, z2⟩ := ex_sizes HQ.out.some.2.2.2.1 HT1.out hT2
    have HT2 := Lib.hid hT2
    clear hT2
    have hS1 : RowKit.Hid (T1 ++ ((⟨#[47]⟩ : ByteArray) ++ T2) = S) := by
     show _ = _
     rw [← HT1.out, ← HT2.out, ← HS.out]; show _ ++ (strOf [47] ++ _) = strOf (exT q); unfold exT; rw [if_neg hd, strOf_append, strOf_append]; rfl
    have HC : RowKit.Hid (cmpI q.den 1 = 1) := cmp_one q.den_nz hd
    clear hd
    go_enter Tryz.func19, Tryz.ntmps19
    go_wp2_with fail
    generalize w.alloc (.cells #[Value.bool s, Value.slice A n c, Value.slice B m d] 27) = w1 at *
    refine (refGood_c HQ.out (by omega) true rfl).mono ?_
    rintro e w2 ⟨rfl, bn⟩
    replace HQ := Lib.hid (HQ.out.below bn)
    replace HR0 := Lib.hid (HR0.out.below bn)
    replace HW := Lib.hid (below_two HW.out bn)
    clear bn
    obtain ⟨-, -, -, -, t5, t6, -⟩ := HQ.out.some
    have HX := Lib.hid t5
    have HY := Lib.hid t6
    clear t5 t6
    have c00 := HR0.out.c0
    have c01 := HR0.out.c1
    go_wp2_with fail
    refine (refIText_c HX.out (by decide) T1 HT1.out).mono ?_
    rintro e w3 ⟨rfl, bn⟩
    clear c00 c01
    replace HX := Lib.hid (HX.out.below bn)
    replace HY := Lib.hid (HY.out.below bn)
    replace HR0 := Lib.hid (HR0.out.below bn)
    replace HW := Lib.hid (below_two HW.out bn)
    clear bn HQ
    have bl := below_new w3 (.cells #[Value.int IntKind.u32 1] 74)
    have HL : RowKit.Hid (NN (w3.alloc (.cells #[Value.int IntKind.u32 1] 74)) (some ⟨w3.heap.size, 0, none⟩) 1 1 (limbs 1) 1 1) := by
     show NN _ _ _ _ _ _ _
     have h := lit_c w3 [1] (by intro x hx; simp at hx; omega) 1 rfl
     rw [one_lit]; exact h
    have c02 := HR0.out.c2
    go_wp2_with fail
    clear c02
    replace HY := Lib.hid (HY.out.below bl)
    replace HR0 := Lib.hid (HR0.out.below bl)
    replace HW := Lib.hid (below_two HW.out bl)
    clear bl
    generalize w3.alloc (.cells #[Value.int IntKind.u32 1] 74) = w4 at *
    generalize w3.heap.size = g3 at *
    refine (refCmp_c HY.out HL.out (by decide) (by decide) 1 HC.out).mono ?_
    rintro e w5 ⟨rfl, rfl⟩
    have c02 := HR0.out.c2
    go_wp2_with fail
    clear c02
    refine (refText_c HY.out (by decide)).mono ?_
    rintro e w6 ⟨rfl, bn⟩
    rw [HT2.out]
    replace HW := Lib.hid (below_two HW.out bn)
    clear bn
    go_wp2
    go_ret
    exact ⟨by rw [← hS1.out]; rfl, HW.out⟩
end
end Go.Proofs.YtjikaojffgjndaaGreatDoor

/- A whole number is told exactly, with noughts behind the point; with a place more the text of what is not below 0, rounded down, goes on. Condition: the listed tables. -/
namespace Go.Proofs.YtjikaojffgjndaaGreatDoor.lawDecimalWhole
open Go.ChangeShapes Go.WideShapes Go.ChangeAt Go.RowKit Limb
set_option linter.unusedVariables false
set_option maxHeartbeats 4000000 in
set_option maxRecDepth 100000 in
theorem walk (v_v : Int) (g_a : Bool) (A_a : Option Addr) (n_a c_a : Nat) (xs_a : List Nat) (B_a : Option Addr) (m_a d_a : Nat) (ys_a : List Nat) (v_n : Int) (w : World) (f_v : (Lit.int .i32 v_v).wf = true) (i_a : IsN w A_a n_a xs_a) (hc_a : n_a ≤ c_a) (hm_a : c_a ≤ maxLen) (j_a : IsN w B_a m_a ys_a) (kc_a : m_a ≤ d_a) (km_a : d_a ≤ maxLen) (f_n : (Lit.int .u8 v_n).wf = true) (T : Tab w) :
 Calls Tryz.prog 7 #[.int .i32 v_v, .agg #[.bool g_a, .slice A_a n_a c_a, .slice B_a m_a d_a], .int .u8 v_n] w fun e w' => e = .returned (.bool true) ∧ Below w.heap.size w w' := by
 have HTab := Lib.hid T
 clear T
 have hw_n : 0 ≤ v_n ∧ v_n ≤ 255 := by
  have e1 : IntKind.u8.min = 0 := rfl
  have e2 : IntKind.u8.max = 255 := rfl
  simp only [Lit.wf, Bool.and_eq_true, decide_eq_true_eq] at f_n
  omega
 obtain ⟨w0_n, w1_n⟩ := hw_n
 clear f_n
 obtain ⟨N, eN⟩ : ∃ N : Nat, v_n % 20 = (N : Int) := ⟨(v_n % 20).toNat, by omega⟩
 have bN : N < 20 := by omega
 have hw_v : -2147483648 ≤ v_v ∧ v_v ≤ 2147483647 := by
  have e1 : IntKind.i32.min = -2147483648 := rfl
  have e2 : IntKind.i32.max = 2147483647 := rfl
  simp only [Lit.wf, Bool.and_eq_true, decide_eq_true_eq] at f_v
  omega
 obtain ⟨w0_v, w1_v⟩ := hw_v
 clear f_v
 have KL_a : max n_a m_a ≤ 9223372036854775807 := by
  have e : maxLen = 9223372036854775807 := by decide
  omega
 have h_a := QQ.of (s := g_a) i_a hc_a j_a kc_a (Nat.le_max_left n_a m_a) (Nat.le_max_right n_a m_a)
 generalize readQ g_a xs_a ys_a = o_a at h_a
 have bw := bel_refl w
 have h_ra := row3_new w 27 (.bool g_a) (.slice A_a n_a c_a) (.slice B_a m_a d_a)
 have bn := below_new w (.cells #[Value.bool g_a, Value.slice A_a n_a c_a, Value.slice B_a m_a d_a] 27)
 replace h_a := h_a.below bn
 replace HTab := Lib.hid (HTab.out.below bn)
 replace bw := below_two bw bn
 clear bn
 go_enter Tryz.func7, Tryz.ntmps7
 go_wp2_with fail
 generalize w.alloc (.cells #[Value.bool g_a, Value.slice A_a n_a c_a, Value.slice B_a m_a d_a] 27) = wP at *
 obtain ⟨q_a, eg⟩ : ∃ g, g = w.heap.size := ⟨_, rfl⟩
 rw [← eg] at h_ra ⊢
 clear eg
 cases o_a with
 | none =>
  refine (refGood_c h_a KL_a false rfl).mono ?_
  rintro e w1 ⟨rfl, bn⟩
  replace h_a := h_a.below bn
  replace h_ra := h_ra.below bn
  replace HTab := Lib.hid (HTab.out.below bn)
  replace bw := below_two bw bn
  clear bn
  go_wp2_with fail
  refine (wakes_any _ HTab.out).mono ?_
  rintro e w2 ⟨rfl, bn⟩
  replace h_a := h_a.below bn
  replace h_ra := h_ra.below bn
  replace HTab := Lib.hid (HTab.out.below bn)
  replace bw := below_two bw bn
  clear bn
  go_wp2
  go_ret
  exact ⟨rfl, bw⟩
 | some z_a =>
  refine (refGood_c h_a KL_a true rfl).mono ?_
  rintro e w3 ⟨rfl, bn⟩
  replace h_a := h_a.below bn
  replace h_ra := h_ra.below bn
  replace HTab := Lib.hid (HTab.out.below bn)
  replace bw := below_two bw bn
  clear bn
  obtain ⟨t1, t2, t3, t4, L1_a, L2_a, D_a⟩ := qq_told h_a
  clear i_a j_a
  subst t1
  subst t2
  subst t3
  replace h_a := t4
  clear t4
  by_cases l_0 : 20 < n_a
  case pos =>
   have LL : (20 : Int) < n_a := by omega
   clear l_0
   have c_a0 := h_ra.c0
   have c_a1 := h_ra.c1
   have c_a2 := h_ra.c2
   go_wp2_with fail
   clear c_a0 c_a1 c_a2
   refine (wakes_any _ HTab.out).mono ?_
   rintro e w4 ⟨rfl, bn⟩
   replace h_a := h_a.below bn
   replace h_ra := h_ra.below bn
   replace HTab := Lib.hid (HTab.out.below bn)
   replace bw := below_two bw bn
   clear bn
   go_wp2
   go_ret
   exact ⟨rfl, bw⟩
  have LL_0 : (n_a : Int) ≤ 20 := by omega
  clear l_0
  by_cases l_1 : 20 < m_a
  case pos =>
   have LL : (20 : Int) < m_a := by omega
   clear l_1
   have c_a0 := h_ra.c0
   have c_a1 := h_ra.c1
   have c_a2 := h_ra.c2
   go_wp2_with fail
   clear c_a0 c_a1 c_a2
   refine (wakes_any _ HTab.out).mono ?_
   rintro e w5 ⟨rfl, bn⟩
   replace h_a := h_a.below bn
   replace h_ra := h_ra.below bn
   replace HTab := Lib.hid (HTab.out.below bn)
   replace bw := below_two bw bn
   clear bn
   go_wp2
   go_ret
   exact ⟨rfl, bw⟩
  have LL_1 : (m_a : Int) ≤ 20 := by omega
  clear l_1
  have ev : IntKind.i64.wrap v_v = v_v := by rw [IntKind.wrap_i64]; omega
  obtain ⟨z_v, hzv⟩ : ∃ q : Rat, (v_v : Rat) = q := ⟨_, rfl⟩
  obtain ⟨hfl, hce⟩ := dwhole_floor v_v N
  rw [hzv] at hfl hce
  obtain ⟨SV, hSV⟩ : ∃ S, strOf (zT v_v) = S := ⟨_, rfl⟩
  obtain ⟨SP, hSP⟩ : ∃ S, strOf (pointT (v_v * ((10 ^ N : Nat) : Int)) N) = S := ⟨_, rfl⟩
  have HDn : RowKit.Hid (decR Rat.floor (some z_v) (N : Int) = (SP, 0)) := decR_yes Rat.floor (by omega) (by rw [hfl]; exact hSP)
  have HUp : RowKit.Hid (decR Rat.ceil (some z_v) (N : Int) = (SP, 0)) := decR_yes Rat.ceil (by omega) (by rw [hce]; exact hSP)
  have HZV := Lib.hid hzv
  have HSV := Lib.hid hSV
  have zSV : SV.size ≤ 30 := by
   have h := zT_len_le v_v
   have h2 : (decT v_v.natAbs).length ≤ 20 := decT_len_le (k := 20) (Nat.lt_of_le_of_lt (show v_v.natAbs ≤ 2147483648 by omega) (by decide)) (by decide)
   rw [← hSV, size_strOf]; omega
  have HWT : RowKit.Hid (∀ Q : ByteArray, bytesOf Q = List.replicate N 48 → (if N = 0 then SV else SV ++ (⟨#[46]⟩ ++ Q)) = SP) := by
   intro Q hQ
   rw [← hSP, point_whole, ← hSV]
   have hz : zT v_v = litSg (sg v_v) ++ decT v_v.natAbs := by
    unfold zT litSg sg
    by_cases h : v_v < 0 <;> simp [h]
   split
   · rw [List.append_nil, hz]
   · rw [← strOf_bytesOf Q, hQ, show (⟨#[46]⟩ : ByteArray) = strOf [46] from rfl, strOf_append, strOf_append, hz]; rfl
  clear hfl hce hzv hSV hSP
  obtain ⟨s_a, hs_a⟩ : ∃ v, cmpR (some z_a) (some 0) = v := ⟨_, rfl⟩
  have HSA := Lib.hid hs_a
  have HBD : RowKit.Hid (Bd z_a 20 20) := D_a.mono (by omega) (by omega)
  obtain ⟨SX, hSX⟩ : ∃ S, strOf (pointT (Rat.floor (movedQ z_a (N))) (N)) = S := ⟨_, rfl⟩
  have HS_SX : RowKit.Hid (decR Rat.floor (some z_a) ((N : Int)) = (SX, 0)) := decR_yes Rat.floor (by omega) hSX
  have HT_SX := Lib.hid hSX
  clear hSX
  obtain ⟨SY, hSY⟩ : ∃ S, strOf (pointT (Rat.floor (movedQ z_a (N + 1))) (N + 1)) = S := ⟨_, rfl⟩
  have HS_SY : RowKit.Hid (decR Rat.floor (some z_a) ((N : Int) + 1) = (SY, 0)) := decR_yes Rat.floor (q := z_a) (p := N + 1) (by omega) hSY
  have HT_SY := Lib.hid hSY
  clear hSY hs_a
  have c_a0 := h_ra.c0
  have c_a1 := h_ra.c1
  have c_a2 := h_ra.c2
  go_wp2
  clear c_a0 c_a1 c_a2
  go_loopw [8, 9] (fun sv iv wr => ∃ (i : Nat) (Q : ByteArray), i ≤ N ∧ sv = .string Q ∧ iv = .int .i64 (i : Int) ∧ RowKit.Hid (bytesOf Q = List.replicate i 48) ∧ w3 = wr) (fun _ iv _ => N - (intOf iv).toNat)
  case atStart => exact ⟨0, ⟨#[]⟩, Nat.zero_le _, rfl, rfl, rfl, rfl⟩
  case round =>
   obtain ⟨i, Q, hi, rfl, rfl, HQ, rfl⟩ := hrel
   have zQ : Q.size = i := by rw [← length_bytesOf, HQ.out, List.length_replicate]
   have zQ2 : Q.size ≤ 19 := by omega
   by_cases hlt : i < N
   · have HQ2 : RowKit.Hid (bytesOf (Q ++ ⟨#[48]⟩) = List.replicate (i + 1) 48) := by
      show _ = _
      rw [bytesOf_append, HQ.out, List.replicate_succ', show bytesOf ⟨#[48]⟩ = [48] from rfl]
     clear zQ HQ
     go_wp2
     go_roundw
     case rel => exact ⟨i + 1, _, by omega, rfl, by go_num, HQ2, by first | rfl | trivial⟩
     case measure => simp [intOf]; omega
   · obtain rfl : i = N := by omega
     have hW := HWT.out Q HQ.out
     clear hlt hi zQ HQ HWT
     go_wp2_with fail
     refine (wOf_c v_v (by omega) (by omega) _).mono ?_
     rintro e w6 ⟨A_o, n_o, c_o, rfl, h_o, bn⟩
     replace h_a := h_a.below bn
     replace h_ra := h_ra.below bn
     replace HTab := Lib.hid (HTab.out.below bn)
     replace bw := below_two bw bn
     clear bn
     go_wp2_with fail
     refine (wText_c HTab.out h_o (by decide) SV HSV.out).mono ?_
     rintro e w7 ⟨rfl, bn⟩
     replace h_a := h_a.below bn
     replace h_ra := h_ra.below bn
     replace h_o := h_o.below bn
     replace HTab := Lib.hid (HTab.out.below bn)
     replace bw := below_two bw bn
     clear bn
     by_cases N0 : i = 0
     · rw [if_pos N0] at hW
       subst N0
       subst hW
       go_wp2_with fail
       refine (rWhole_is v_v (by omega) (by omega) _ HZV.out _).mono ?_
       rintro e w8 ⟨A_x, n_x, c_x, B_x, m_x, d_x, rfl, h_x, bn⟩
       replace h_a := h_a.below bn
       replace h_ra := h_ra.below bn
       replace h_o := h_o.below bn
       replace HTab := Lib.hid (HTab.out.below bn)
       replace bw := below_two bw bn
       clear bn
       go_wp2_with fail
       refine (dDown_c h_x (by decide) HTab.out 0 (by omega) (by omega) _ 0 HDn.out).mono ?_
       rintro e w9 ⟨rfl, bn⟩
       replace h_a := h_a.below bn
       replace h_ra := h_ra.below bn
       replace h_o := h_o.below bn
       replace h_x := h_x.below bn
       replace HTab := Lib.hid (HTab.out.below bn)
       replace bw := below_two bw bn
       clear bn
       go_wp2_with fail
       refine (rWhole_is v_v (by omega) (by omega) _ HZV.out _).mono ?_
       rintro e w10 ⟨A_y, n_y, c_y, B_y, m_y, d_y, rfl, h_y, bn⟩
       replace h_a := h_a.below bn
       replace h_ra := h_ra.below bn
       replace h_o := h_o.below bn
       replace h_x := h_x.below bn
       replace HTab := Lib.hid (HTab.out.below bn)
       replace bw := below_two bw bn
       clear bn
       go_wp2_with fail
       refine (dUp_c h_y (by decide) HTab.out 0 (by omega) (by omega) _ 0 HUp.out).mono ?_
       rintro e w11 ⟨rfl, bn⟩
       replace h_a := h_a.below bn
       replace h_ra := h_ra.below bn
       replace h_o := h_o.below bn
       replace h_x := h_x.below bn
       replace h_y := h_y.below bn
       replace HTab := Lib.hid (HTab.out.below bn)
       replace bw := below_two bw bn
       clear bn
       have c_a0 := h_ra.c0
       have c_a1 := h_ra.c1
       have c_a2 := h_ra.c2
       go_wp2_with fail
       clear c_a0 c_a1 c_a2
       refine (rSign_c h_a (by decide) s_a HSA.out).mono ?_
       rintro e w12 ⟨rfl, bn⟩
       replace h_a := h_a.below bn
       replace h_ra := h_ra.below bn
       replace h_o := h_o.below bn
       replace h_x := h_x.below bn
       replace h_y := h_y.below bn
       replace HTab := Lib.hid (HTab.out.below bn)
       replace bw := below_two bw bn
       clear bn
       by_cases g : s_a < 0
       · have g1 : decide (s_a < 0) = true := decide_eq_true g
         go_wp2_with fail
         refine (wakes_any _ HTab.out).mono ?_
         rintro e w13 ⟨rfl, bn⟩
         replace h_a := h_a.below bn
         replace h_ra := h_ra.below bn
         replace h_o := h_o.below bn
         replace h_x := h_x.below bn
         replace h_y := h_y.below bn
         replace HTab := Lib.hid (HTab.out.below bn)
         replace bw := below_two bw bn
         clear bn
         go_wp2
         go_ret
         exact ⟨rfl, bw⟩
       · have g1 : decide (s_a < 0) = false := decide_eq_false g
         go_wp2_with fail
         refine (wakes_any _ HTab.out).mono ?_
         rintro e w14 ⟨rfl, bn⟩
         replace h_a := h_a.below bn
         replace h_ra := h_ra.below bn
         replace h_o := h_o.below bn
         replace h_x := h_x.below bn
         replace h_y := h_y.below bn
         replace HTab := Lib.hid (HTab.out.below bn)
         replace bw := below_two bw bn
         clear bn
         go_wp2
         go_ret
         exact ⟨rfl, bw⟩
     · rw [if_neg N0] at hW
       have N1 : (0 : Int) < (i : Int) := by omega
       have N2 : 0 < i := by omega
       have N3 : ((i : Int) == 0) = false := by rw [beq_eq_false_iff_ne]; omega
       go_wp2_with fail
       refine (rWhole_is v_v (by omega) (by omega) _ HZV.out _).mono ?_
       rintro e w15 ⟨A_x, n_x, c_x, B_x, m_x, d_x, rfl, h_x, bn⟩
       replace h_a := h_a.below bn
       replace h_ra := h_ra.below bn
       replace h_o := h_o.below bn
       replace HTab := Lib.hid (HTab.out.below bn)
       replace bw := below_two bw bn
       clear bn
       go_wp2_with fail
       refine (dDown_c h_x (by decide) HTab.out (i : Int) (by omega) (by omega) _ 0 HDn.out).mono ?_
       rintro e w16 ⟨rfl, bn⟩
       replace h_a := h_a.below bn
       replace h_ra := h_ra.below bn
       replace h_o := h_o.below bn
       replace h_x := h_x.below bn
       replace HTab := Lib.hid (HTab.out.below bn)
       replace bw := below_two bw bn
       clear bn
       go_wp2_with fail
       refine (rWhole_is v_v (by omega) (by omega) _ HZV.out _).mono ?_
       rintro e w17 ⟨A_y, n_y, c_y, B_y, m_y, d_y, rfl, h_y, bn⟩
       replace h_a := h_a.below bn
       replace h_ra := h_ra.below bn
       replace h_o := h_o.below bn
       replace h_x := h_x.below bn
       replace HTab := Lib.hid (HTab.out.below bn)
       replace bw := below_two bw bn
       clear bn
       go_wp2_with fail
       refine (dUp_c h_y (by decide) HTab.out (i : Int) (by omega) (by omega) _ 0 HUp.out).mono ?_
       rintro e w18 ⟨rfl, bn⟩
       replace h_a := h_a.below bn
       replace h_ra := h_ra.below bn
       replace h_o := h_o.below bn
       replace h_x := h_x.below bn
       replace h_y := h_y.below bn
       replace HTab := Lib.hid (HTab.out.below bn)
       replace bw := below_two bw bn
       clear bn
       have c_a0 := h_ra.c0
       have c_a1 := h_ra.c1
       have c_a2 := h_ra.c2
       go_wp2_with fail
       clear c_a0 c_a1 c_a2
       refine (rSign_c h_a (by decide) s_a HSA.out).mono ?_
       rintro e w19 ⟨rfl, bn⟩
       replace h_a := h_a.below bn
       replace h_ra := h_ra.below bn
       replace h_o := h_o.below bn
       replace h_x := h_x.below bn
       replace h_y := h_y.below bn
       replace HTab := Lib.hid (HTab.out.below bn)
       replace bw := below_two bw bn
       clear bn
       by_cases g : s_a < 0
       · have g1 : decide (s_a < 0) = true := decide_eq_true g
         go_wp2_with fail
         refine (wakes_any _ HTab.out).mono ?_
         rintro e w20 ⟨rfl, bn⟩
         replace h_a := h_a.below bn
         replace h_ra := h_ra.below bn
         replace h_o := h_o.below bn
         replace h_x := h_x.below bn
         replace h_y := h_y.below bn
         replace HTab := Lib.hid (HTab.out.below bn)
         replace bw := below_two bw bn
         clear bn
         go_wp2
         go_ret
         exact ⟨rfl, bw⟩
       · have g1 : decide (s_a < 0) = false := decide_eq_false g
         have hnn : 0 ≤ z_a.num := by
          rcases rat_tri z_a 0 with h | h | h
          · exact absurd (show s_a < 0 by rw [← HSA.out]; show cmpQ z_a 0 < 0; rw [cmpQ_lt h]; decide) g
          · rw [h]; decide
          · exact Rat.num_nonneg.2 (Rat.le_of_lt h)
         obtain ⟨d, hd, hmore⟩ := dmore hnn N0
         have hYX : SY = SX ++ ⟨#[UInt8.ofNat (48 + d)]⟩ := by
          rw [← HT_SY.out, ← HT_SX.out, hmore, ← strOf_append]; rfl
         have hz : SY.size = SX.size + 1 := by rw [hYX, ByteArray.size_append]; rfl
         have hcut : SY.extract 0 SX.size = SX := by
          rw [← strOf_bytesOf (SY.extract 0 SX.size), bytes_cut, hYX, bytesOf_append, List.drop_zero, Nat.sub_zero, ← length_bytesOf SX, List.take_left, strOf_bytesOf]
         have hxs : SX.size ≤ 2000 := by
          have h := room_size (room_of ((moved_bd HBD.out (p := i) (by omega)).mono (by omega) (by omega)) (Int.le_refl _) (by omega)) (by omega) HT_SX.out
          omega
         have hz2 : (SY.size : Int) = (SX.size : Int) + 1 := by omega
         have hz3 : ((SY.size : Int) == (SX.size : Int) + 1) = true := by rw [beq_iff_eq]; omega
         have HZ2 := Lib.hid hz
         have hl1 : (SX.size : Int) ≤ (SY.size : Int) := by omega
         clear hYX hmore hd hnn hz2 hz
         have c_a0 := h_ra.c0
         have c_a1 := h_ra.c1
         have c_a2 := h_ra.c2
         go_wp2_with fail
         clear c_a0 c_a1 c_a2
         refine (dDown_c h_a (by decide) HTab.out (i : Int) (by omega) (by omega) SX 0 HS_SX.out).mono ?_
         rintro e w21 ⟨rfl, bn⟩
         replace h_a := h_a.below bn
         replace h_ra := h_ra.below bn
         replace h_o := h_o.below bn
         replace h_x := h_x.below bn
         replace h_y := h_y.below bn
         replace HTab := Lib.hid (HTab.out.below bn)
         replace bw := below_two bw bn
         clear bn
         have c_a0 := h_ra.c0
         have c_a1 := h_ra.c1
         have c_a2 := h_ra.c2
         go_wp2_with fail
         clear c_a0 c_a1 c_a2
         refine (dDown_c h_a (by decide) HTab.out ((i : Int) + 1) (by omega) (by omega) SY 0 HS_SY.out).mono ?_
         rintro e w22 ⟨rfl, bn⟩
         replace h_a := h_a.below bn
         replace h_ra := h_ra.below bn
         replace h_o := h_o.below bn
         replace h_x := h_x.below bn
         replace h_y := h_y.below bn
         replace HTab := Lib.hid (HTab.out.below bn)
         replace bw := below_two bw bn
         clear bn
         go_wp2_with fail
         refine (wakes_any _ HTab.out).mono ?_
         rintro e w23 ⟨rfl, bn⟩
         replace h_a := h_a.below bn
         replace h_ra := h_ra.below bn
         replace h_o := h_o.below bn
         replace h_x := h_x.below bn
         replace h_y := h_y.below bn
         replace HTab := Lib.hid (HTab.out.below bn)
         replace bw := below_two bw bn
         clear bn
         go_wp2
         go_ret
         exact ⟨rfl, bw⟩
theorem tab_of {W : World} (h : laidMet Tryz.prog Rows.decimalWholeRow.laid W) : Tab W := by
 refine ⟨?_, ?_⟩
 · first | exact powers_tab (laidMet_drop 0 h) (by decide +kernel) | exact powers_tab (laidMet_drop 1 h) (by decide +kernel) | exact powers_tab (laidMet_drop 2 h) (by decide +kernel) | exact powers_tab (laidMet_drop 3 h) (by decide +kernel) | exact powers_tab (laidMet_drop 4 h) (by decide +kernel) | exact powers_tab (laidMet_drop 5 h) (by decide +kernel) | exact powers_tab (laidMet_drop 6 h) (by decide +kernel) | exact powers_tab (laidMet_drop 7 h) (by decide +kernel) | exact powers_tab (laidMet_drop 8 h) (by decide +kernel) | exact powers_tab (laidMet_drop 9 h) (by decide +kernel) | exact powers_tab (laidMet_drop 10 h) (by decide +kernel) | exact powers_tab (laidMet_drop 11 h) (by decide +kernel) | exact powers_tab (laidMet_drop 12 h) (by decide +kernel) | exact powers_tab (laidMet_drop 13 h) (by decide +kernel)
 · first | exact err_tab (laidMet_drop 0 h) (by decide +kernel) | exact err_tab (laidMet_drop 1 h) (by decide +kernel) | exact err_tab (laidMet_drop 2 h) (by decide +kernel) | exact err_tab (laidMet_drop 3 h) (by decide +kernel) | exact err_tab (laidMet_drop 4 h) (by decide +kernel) | exact err_tab (laidMet_drop 5 h) (by decide +kernel) | exact err_tab (laidMet_drop 6 h) (by decide +kernel) | exact err_tab (laidMet_drop 7 h) (by decide +kernel) | exact err_tab (laidMet_drop 8 h) (by decide +kernel) | exact err_tab (laidMet_drop 9 h) (by decide +kernel) | exact err_tab (laidMet_drop 10 h) (by decide +kernel) | exact err_tab (laidMet_drop 11 h) (by decide +kernel) | exact err_tab (laidMet_drop 12 h) (by decide +kernel) | exact err_tab (laidMet_drop 13 h) (by decide +kernel)
set_option maxRecDepth 100000 in
theorem lifted (os : Os) (started : os.Started) (H : Type) (enc : TypeId × Value → H) :
 ReturnsInHanded {} Tryz.checked os 7 .any (fun w args => (Rows.decimalWholeSpec.pre enc Tryz.prog Tryz.f7 [] false w args ∧ laidMetH Tryz.prog Rows.decimalWholeRow.laid w) ∧ sizedMet enc Tryz.prog Tryz.f7 (OpenSpec.ofChange Rows.decimalWholeSpec) false w args)
  (Rows.decimalWholeSpec.post enc Tryz.prog Tryz.f7 false true false false) := by
 refine returnsInHanded_of_change_and (C := Tryz.checked) (X := fun w _ => laidMetH Tryz.prog Rows.decimalWholeRow.laid w) (fun _ _ _ hh h => h.of_heap hh) own started (by kernel_rfl) Tryz.func7
  (ChangeSpec.witness_shaped (enc := enc) (C := Tryz.checked) (os := os) (X := fun w _ => laidMetH Tryz.prog Rows.decimalWholeRow.laid w) false (World.laidAll Tryz.prog os Rows.decimalWholeRow.laid) #[.int .i32 0, .agg #[.bool false, .slice none 0 0, .slice none 0 0], .int .u8 0] 8 (World.laidAll_os _ _ _)
    (World.shaped_of_ZipB (by kernel_rfl) (by kernel_rfl)) (by kernel_rfl) (by kernel_rfl) (by kernel_rfl)
    (by rw [MakeChecks.laidMetH_plain _ _ _ (by kernel_rfl)]; exact laidMet_laidAll _ (by kernel_rfl) (by kernel_rfl))) ?_
 intro W base args ds gs before hval0 hW _ _ hL _
 have hval : ∀ (j : Nat) t v, Tryz.f7.params[j]? = some t → args[j]? = some v → Value.okWide Tryz.prog W .any base t v := hval0
 have hW' := hW
 obtain ⟨p, q, hA0, hV, rfl, hfz, hnd⟩ := hW
 have hA : DataW.TrodAll enc Tryz.prog W 0 (fun _ => true) true Tryz.f7.params.toList args.toList ds p := hA0
 rw [Tryz.params7] at hA hval
 obtain ⟨v0, vs0, d0, ds0, p0, q0, hargs, rfl, rfl, h0, r0⟩ := trodAll_cons hA
 obtain ⟨v1, vs1, d1, ds1, p1, q1, rfl, rfl, rfl, h1, r1⟩ := trodAll_cons r0
 obtain ⟨v2, vs2, d2, ds2, p2, q2, rfl, rfl, rfl, h2, r2⟩ := trodAll_cons r1
 obtain ⟨rfl, rfl, rfl⟩ := trodAll_nil r2
 obtain rfl : args = #[v0, v1, v2] := by cases args; simp_all
 obtain ⟨rfl, rfl⟩ := trodVars_none hV
 obtain ⟨a0, rfl, rfl, rfl, w0⟩ := open_int Tryz.underlying21 (hval 0 21 v0 rfl rfl) h0
 obtain ⟨b1, a1, len1, cap1, z1, e1, lem1, dap1, y1, rfl, i1, hc1, hm1, k1, kc1, km1⟩ := open_rat (hval 1 27 v1 rfl rfl) h1
 obtain ⟨a2, rfl, rfl, rfl, w2⟩ := open_int Tryz.underlying5 (hval 2 5 v2 rfl rfl) h2
 clear hA0 hval0
 simp only [List.append_nil] at hW'
 rw [MakeChecks.laidMetH_plain _ _ _ (by kernel_rfl)] at hL
 refine (walk a0 b1 a1 len1 cap1 z1 e1 lem1 dap1 y1 a2 W w0 i1 hc1 hm1 k1 kc1 km1 w2 (tab_of hL)).mono fun e W' ⟨he, bel⟩ => ?_
 subst he
 exact ⟨_, rfl, _, _, _, [], _, [], hW', trodAll_mk1 (shut_bool Tryz.underlying4 _), (trodAll_cons_mk (shut_int Tryz.underlying21 w0) (trodAll_cons_mk (Below.trod laidOut (by kernel_rfl) (of_decide_eq_true (by kernel_rfl)) h1 bel (places_lt h1)) (trodAll_cons_mk (shut_int Tryz.underlying5 w2) trodAll_mk0))), rfl, bel.frame _, fun h => by cases h⟩
theorem over : Rows.decimalWholeRow.holds Tryz.pinned (OpenSpec.ofChange Rows.decimalWholeSpec) :=
 OpenClaim.holds_of_wide 7 Tryz.f7 rfl rfl rfl rfl rfl rfl rfl ⟨rfl, rfl, rfl, rfl, rfl⟩ rfl rfl rfl rfl rfl (by kernel_rfl) Tryz.func7 (by kernel_rfl)
  (of_decide_eq_true (by kernel_rfl)) (by unfold Func.isWrapper; first | (rw [if_pos (by decide +kernel)]; kernel_rfl) | (rw [if_neg (by decide +kernel)]; exact ⟨rfl, rfl⟩))
  (fun os started H enc _ => lifted os started H enc)
theorem proved : Rows.DecimalWholeCardSaid :=
 Claim7.holds_tied_plain_at .later [] Rows.decimalWholeCard.laidKinds true Rows.decimalWholeCard.stood.harness Rows.decimalWholeCard.stood.looks
  over (fun _ h => by cases h) (by kernel_rfl) (fun _ h => by cases h) decimalWhole_row_tie rfl ⟨rfl, rfl⟩ (by kernel_rfl) rfl
  (fun f fn hf hfn => by
    obtain rfl : f = 7 := Option.some.inj ((show Tryz.prog.funcNamed Rows.decimalWholeRow.func = some 7 by kernel_rfl).symm.trans hf) |>.symm
    obtain rfl : fn = Tryz.f7 := (Option.some.inj (Tryz.func7.symm.trans hfn)).symm
    exact ⟨by kernel_rfl, fun j t ht => by
     have hm : t ∈ Tryz.f7.params.toList := by simpa using Array.mem_of_getElem? ht
     have hall : (Tryz.f7.params.toList.all fun u => !Tryz.prog.wantsStandIn u) = true := by kernel_rfl
     exact (show Tryz.prog.wantsStandIn t = false by simpa using List.all_eq_true.1 hall t hm)⟩)
  (by kernel_rfl)
end Go.Proofs.YtjikaojffgjndaaGreatDoor.lawDecimalWhole
